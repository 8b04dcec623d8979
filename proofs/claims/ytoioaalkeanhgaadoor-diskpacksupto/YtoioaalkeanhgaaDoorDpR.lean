import Derived.Test.YtoioaalkeanhgaaDoorBlk
import Derived.Test.YtoioaalkeanhgaaDoorLaid
import Derived.Test.YtoioaalkeanhgaaDoorDpK
namespace Go.Proofs.YtoioaalkeanhgaaDoor
open Go.ChangeShapes Go.WideShapes Go.ChangeAt Go.RowKit
open Go.Deep Go.Joins
set_option linter.unusedVariables false
set_option maxRecDepth 100000

theorem cells41 : Tryd.prog.cellsOf 41 = 3 := by kernel_rfl
theorem cells45 : Tryd.prog.cellsOf 45 = 3 := by kernel_rfl
theorem cells43 : Tryd.prog.cellsOf 43 = 2 := by kernel_rfl
theorem cellsI : Tryd.prog.cellsOf 3 = 1 := by kernel_rfl
theorem cellsB : Tryd.prog.cellsOf 26 = 1 := by kernel_rfl
theorem bounds_i64 {z : Int} (h : (Lit.int .i64 z).wf = true) : InI z := by
  have h' : (decide (IntKind.i64.min ≤ z) && decide (z ≤ IntKind.i64.max)) = true := h
  have e1 : IntKind.i64.min = -9223372036854775808 := by decide
  have e2 : IntKind.i64.max = 9223372036854775807 := by decide
  simp [e1, e2] at h'
  exact ⟨by omega, by omega⟩
theorem flat_bulk {H : Type} (f : Nat → List UInt8) (D : Nat → DataW H) : ∀ l : List Nat, (∀ i ∈ l, (f i).length ≤ 22 * Rows.uptoBulk (D i)) → (l.flatMap f).length ≤ 22 * Rows.uptoBulkAll (l.map D)
  | [], _ => by simp
  | i :: l, h => by
    have h1 := h i (by simp)
    have h2 := flat_bulk f D l (fun j hj => h j (by simp [hj]))
    simp only [List.flatMap_cons, List.length_append, List.map_cons, Rows.uptoBulkAll]
    omega
theorem bulk_at {H : Type} (D : Nat → DataW H) (n i : Nat) (spare : List (DataW H)) (hi : i < n) : Rows.uptoBulk (D i) + 1 ≤ Rows.uptoBulk (.slice ((List.range n).map D) spare) := by
  have h1 := bulk_mem (d := D i) (l := (List.range n).map D) (List.mem_map.2 ⟨i, List.mem_range.2 hi, rfl⟩)
  have h2 := (bulk_slice ((List.range n).map D) spare).1
  omega

theorem ofs_in {H : Type} {enc : TypeId × Value → H} {W : World} {a : Option Addr} {len cap fuel : Nat} {x : DataW H × List MemPlace}
    (hf : DataW.trod enc Tryd.prog W 0 (fun _ => true) true fuel 22 [.slice a len cap] = some x) :
    ∃ os : List Of, os.length = len ∧ OfL W a os ∧ (∀ o ∈ os, InO o) ∧ len ≤ Rows.uptoBulk x.1 ∧ (os.flatMap encOf).length ≤ 22 * Rows.uptoBulk x.1 := by
  rcases open_slice Tryd.underlying22 hf with ⟨hcs, _⟩ | ⟨y, l, c, m, n, D, Pl, hcs, _, hl, hm, hmm, hD, hx⟩
  · simp at hcs
    obtain ⟨rfl, rfl, rfl⟩ := hcs
    exact ⟨[], rfl, fun i hi => absurd hi (by simp), fun v hv => (by cases hv), Nat.zero_le _, by simp⟩
  · simp at hcs
    obtain ⟨rfl, rfl, rfl⟩ := hcs
    simp at hmm
    subst hmm
    rw [cells41] at hx
    have hspot : 0 < len → y.spot = none := by
      intro h0
      obtain ⟨cs', h1, h2⟩ := hx 0 (by omega)
      obtain ⟨_, hlen, hcell⟩ := World.cells?_some h1
      match cs', hlen with
      | [v0, v1, v2], _ =>
        have c0 := hcell 0 (by omega)
        rw [Deep.add_add] at c0
        obtain ⟨b, off, spot⟩ := y
        simpa [Addr.add] using World.cell?_spot c0
    have key : ∀ i, i < len → ∃ v : Of, (∃ b off, some y = some (⟨b, off, none⟩ : Addr) ∧ W.cell? ⟨b, off + i * 3, none⟩ = some (.int .i64 v.n) ∧ W.cell? ⟨b, off + i * 3 + 1, none⟩ = some (.int .i64 v.p) ∧ W.cell? ⟨b, off + i * 3 + 2, none⟩ = some (.int .i64 v.a)) ∧ InO v ∧ 4 ≤ Rows.uptoBulk (D i) := by
      intro i hi
      obtain ⟨cs', h1, h2⟩ := hx i (by omega)
      obtain ⟨_, hlen, hcell⟩ := World.cells?_some h1
      obtain ⟨y0, y1, y2, n', hDi, _, g0, g1, g2⟩ := trod_struct3 Tryd.underlying41 h2
      match cs', hlen with
      | [v0, v1, v2], _ =>
        simp [cellsI] at g0 g1 g2
        obtain ⟨z0, e0, d0, w0⟩ := DataW.trod_int Tryd.underlying3 g0
        obtain ⟨z1, e1, d1, w1⟩ := DataW.trod_int Tryd.underlying3 g1
        obtain ⟨z2, e2, d2, w2⟩ := DataW.trod_int Tryd.underlying3 g2
        simp at e0 e1 e2
        subst e0 e1 e2
        have c0 := hcell 0 (by omega)
        have c1 := hcell 1 (by omega)
        have c2 := hcell 2 (by omega)
        rw [Deep.add_add] at c0 c1 c2
        have hs := hspot (by omega)
        obtain ⟨b, off, spot⟩ := y
        simp at hs
        subst hs
        rw [WideShapes.add_plain] at c0 c1 c2
        refine ⟨⟨z0, z1, z2⟩, ⟨b, off, rfl, by simpa using c0, by simpa [Nat.add_assoc] using c1, by simpa [Nat.add_assoc] using c2⟩, ⟨bounds_i64 w0, bounds_i64 w1, bounds_i64 w2⟩, ?_⟩
        have hb : D i = .agg [y0.1, y1.1, y2.1] := by simpa using congrArg Prod.fst hDi
        have h5 := bulk_pos y0.1
        have h6 := bulk_pos y1.1
        have h7 := bulk_pos y2.1
        rw [hb]
        simp only [Rows.uptoBulk, Rows.uptoBulkAll]
        omega
    haveI : Inhabited Of := ⟨⟨0, 0, 0⟩⟩
    obtain ⟨f, hf'⟩ := choose_lt key
    have hx1 : x.1 = .slice ((List.range len).map D) ((List.range (m - len)).map fun j => D (len + j)) := by rw [hD]
    refine ⟨(List.range len).map f, by simp, ?_, ?_, ?_, ?_⟩
    · intro i hi
      have hi' : i < len := by simpa using hi
      obtain ⟨b, off, e1, e2, e3, e4⟩ := (hf' i hi').1
      exact ⟨b, off, e1, by simpa using e2, by simpa using e3, by simpa using e4⟩
    · intro v hv
      obtain ⟨i, hi, rfl⟩ := List.mem_map.1 hv
      exact (hf' i (List.mem_range.1 hi)).2.1
    · have := (bulk_slice ((List.range len).map D) ((List.range (m - len)).map fun j => D (len + j))).2
      rw [← hx1] at this
      simp at this
      omega
    · rw [List.flatMap_map]
      have h1 := flat_bulk (fun i => encOf (f i)) D (List.range len) (fun i hi => by
        obtain ⟨-, b1, b2⟩ := hf' i (List.mem_range.1 hi)
        have := nums_len (ofNs (f i)) b1.all
        have e : (ofNs (f i)).length = 3 := rfl
        rw [e] at this
        show ((ofNs (f i)).flatMap encInt).length ≤ _
        omega)
      have h2 := (bulk_slice ((List.range len).map D) ((List.range (m - len)).map fun j => D (len + j))).1
      rw [← hx1] at h2
      omega

theorem lat_blist (f : Nat → UInt8) (n i : Nat) (hi : i < n) : lat (blist f n) i = f i := by simp [lat, blist, hi]
theorem hds_in {H : Type} {enc : TypeId × Value → H} {W : World} {a : Option Addr} {len cap fuel : Nat} {x : DataW H × List MemPlace}
    (hf : DataW.trod enc Tryd.prog W 0 (fun _ => true) true fuel 23 [.slice a len cap] = some x) :
    ∃ hs : List Hd, hs.length = len ∧ HdL W a hs ∧ (∀ h ∈ hs, InI h.n ∧ InI h.g ∧ h.b.length ≤ Rows.uptoBulk x.1) ∧ len ≤ Rows.uptoBulk x.1 ∧ (hs.flatMap encHd).length ≤ 22 * Rows.uptoBulk x.1 := by
  rcases open_slice Tryd.underlying23 hf with ⟨hcs, _⟩ | ⟨y, l, c, m, n, D, Pl, hcs, _, hl, hm, hmm, hD, hx⟩
  · simp at hcs
    obtain ⟨rfl, rfl, rfl⟩ := hcs
    exact ⟨[], rfl, fun i hi => absurd hi (by simp), fun v hv => (by cases hv), Nat.zero_le _, by simp⟩
  · simp at hcs
    obtain ⟨rfl, rfl, rfl⟩ := hcs
    simp at hmm
    subst hmm
    rw [cells45] at hx
    have hspot : 0 < len → y.spot = none := by
      intro h0
      obtain ⟨cs', h1, h2⟩ := hx 0 (by omega)
      obtain ⟨_, hlen, hcell⟩ := World.cells?_some h1
      match cs', hlen with
      | [v0, v1, v2], _ =>
        have c0 := hcell 0 (by omega)
        rw [Deep.add_add] at c0
        obtain ⟨b, off, spot⟩ := y
        simpa [Addr.add] using World.cell?_spot c0
    have key : ∀ i, i < len → ∃ v : Hd, (∃ b off ax cx, some y = some (⟨b, off, none⟩ : Addr) ∧ W.cell? ⟨b, off + i * 3, none⟩ = some (.int .i64 v.n) ∧ W.cell? ⟨b, off + i * 3 + 1, none⟩ = some (.int .i64 v.g) ∧ W.cell? ⟨b, off + i * 3 + 2, none⟩ = some (.slice ax v.b.length cx) ∧ Bytes W ax v.b.length (lat v.b) ∧ (ax = none → cx = 0)) ∧ InI v.n ∧ InI v.g ∧ v.b.length + 4 ≤ Rows.uptoBulk (D i) ∧ v.b.length ≤ maxLen := by
      intro i hi
      obtain ⟨cs', h1, h2⟩ := hx i (by omega)
      obtain ⟨_, hlen, hcell⟩ := World.cells?_some h1
      obtain ⟨y0, y1, n', hDi, _, g0, g1⟩ := trod_struct2 Tryd.underlying45 h2
      match cs', hlen with
      | [v0, v1, v2], _ =>
        simp [cellsI, cells43] at g0 g1
        obtain ⟨z0, e0, d0, w0⟩ := DataW.trod_int Tryd.underlying3 g0
        obtain ⟨y2, y3, n2, hE, _, g2, g3⟩ := trod_struct2 Tryd.underlying43 g1
        simp [cellsI, cellsB] at g2 g3
        obtain ⟨z1, e1, d1, w1⟩ := DataW.trod_int Tryd.underlying3 g2
        have hsl : ∃ a' len' cap', v2 = .slice a' len' cap' ∧ (a' = none → cap' = 0) ∧ len' ≤ maxLen := by
          rcases open_slice Tryd.underlying26 g3 with ⟨hcs, _⟩ | ⟨_, l', c', _, _, _, _, hcs, _, hl', hm', _⟩
          · simp at hcs; exact ⟨_, _, _, hcs, fun _ => rfl, by decide⟩
          · simp at hcs; exact ⟨_, _, _, hcs, (fun h => by cases h), by omega⟩
        obtain ⟨a', len', cap', rfl, hnc, hlm⟩ := hsl
        obtain ⟨ff, lf, lc, sz⟩ := bytes_in g3
        simp at e0 e1
        subst e0 e1
        have c0 := hcell 0 (by omega)
        have c1 := hcell 1 (by omega)
        have c2 := hcell 2 (by omega)
        rw [Deep.add_add] at c0 c1 c2
        have hs := hspot (by omega)
        obtain ⟨b, off, spot⟩ := y
        simp at hs
        subst hs
        rw [WideShapes.add_plain] at c0 c1 c2
        have hbl := blist_len ff len'
        refine ⟨⟨z0, z1, blist ff len'⟩, ⟨b, off, a', cap', rfl, by simpa using c0, by simpa [Nat.add_assoc] using c1, ?_, ?_, hnc⟩, bounds_i64 w0, bounds_i64 w1, ?_, by rw [hbl]; exact hlm⟩
        · rw [hbl]; simpa [Nat.add_assoc] using c2
        · rw [hbl]
          intro j hj
          obtain ⟨b2, o2, e2, hc2⟩ := lf j hj
          exact ⟨b2, o2, e2, by rw [lat_blist ff len' j hj]; exact hc2⟩
        · rw [hbl]
          have hb : D i = .agg [y0.1, y1.1] := by simpa using congrArg Prod.fst hDi
          have hb2 : y1.1 = .agg [y2.1, y3.1] := by simpa using congrArg Prod.fst hE
          have h5 := bulk_pos y0.1
          have h6 := bulk_pos y2.1
          have h7 : len' < Rows.uptoBulk y3.1 ∨ len' = 0 := by
            rcases sz with ⟨h, _, _⟩ | ⟨el, sp, hd, hcs⟩
            · exact .inr h
            · rw [hd]
              have := (bulk_slice el sp).2
              exact .inl (by omega)
          have h8 := bulk_pos y3.1
          rw [hb]
          simp only [Rows.uptoBulk, Rows.uptoBulkAll, hb2]
          omega
    haveI : Inhabited Hd := ⟨⟨0, 0, []⟩⟩
    obtain ⟨f, hf'⟩ := choose_lt key
    have hx1 : x.1 = .slice ((List.range len).map D) ((List.range (m - len)).map fun j => D (len + j)) := by rw [hD]
    refine ⟨(List.range len).map f, by simp, ?_, ?_, ?_, ?_⟩
    · intro i hi
      have hi' : i < len := by simpa using hi
      obtain ⟨b, off, ax, cx, e1, e2, e3, e4, e5, e6⟩ := (hf' i hi').1
      exact ⟨b, off, ax, cx, e1, by simpa using e2, by simpa using e3, by simpa using e4, by simpa using e5, e6⟩
    · intro v hv
      obtain ⟨i, hi, rfl⟩ := List.mem_map.1 hv
      have hi' := List.mem_range.1 hi
      obtain ⟨-, b1, b2, b3, -⟩ := hf' i hi'
      have := bulk_at D len i ((List.range (m - len)).map fun j => D (len + j)) hi'
      rw [← hx1] at this
      exact ⟨b1, b2, by omega⟩
    · have := (bulk_slice ((List.range len).map D) ((List.range (m - len)).map fun j => D (len + j))).2
      rw [← hx1] at this
      simp at this
      omega
    · rw [List.flatMap_map]
      have h1 := flat_bulk (fun i => encHd (f i)) D (List.range len) (fun i hi => by
        obtain ⟨-, b1, b2, b3, b4⟩ := hf' i (List.mem_range.1 hi)
        unfold maxLen at b4
        have := nums_len [(f i).n, (f i).g, ((f i).b.length : Int)] (fun y hy => by
          simp at hy
          rcases hy with rfl | rfl | rfl
          · exact b1
          · exact b2
          · exact ⟨by omega, by omega⟩)
        have e : [(f i).n, (f i).g, ((f i).b.length : Int)].length = 3 := rfl
        rw [e] at this
        unfold encHd
        rw [List.length_append]
        omega)
      have h2 := (bulk_slice ((List.range len).map D) ((List.range (m - len)).map fun j => D (len + j))).1
      rw [← hx1] at h2
      omega
theorem wtH_enc (hs : List Hd) : wtH hs ≤ (hs.flatMap encHd).length := by
  induction hs with
  | nil => simp [wtH]
  | cons h hs ih =>
    have e : wtH (h :: hs) = (2 + h.b.length) + wtH hs := by simp [wtH]
    rw [e, List.flatMap_cons, List.length_append]
    have h1 := encInt_pos h.n
    have h2 := encInt_pos h.g
    have : 2 + h.b.length ≤ (encHd h).length := by
      unfold encHd
      simp only [List.flatMap_cons, List.length_append, List.flatMap_nil]
      omega
    omega
end Go.Proofs.YtoioaalkeanhgaaDoor
