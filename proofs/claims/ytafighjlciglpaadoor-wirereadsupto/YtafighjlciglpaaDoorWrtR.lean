import Derived.Test.YtafighjlciglpaaDoorBlk
import Derived.Test.YtafighjlciglpaaDoorLaid
import Derived.Test.YtafighjlciglpaaDoorWrtD
namespace Go.Proofs.YtafighjlciglpaaDoor
open Go.ChangeShapes Go.WideShapes Go.ChangeAt Go.RowKit
open Go.Deep Go.Joins
set_option linter.unusedVariables false
set_option maxRecDepth 100000

theorem cells58 : Tryd.prog.cellsOf 57 = 3 := by kernel_rfl
theorem cells55 : Tryd.prog.cellsOf 54 = 2 := by kernel_rfl
theorem cells56 : Tryd.prog.cellsOf 55 = 1 := by kernel_rfl
theorem cells53 : Tryd.prog.cellsOf 52 = 1 := by kernel_rfl
theorem cells2 : Tryd.prog.cellsOf 2 = 1 := by kernel_rfl
theorem cells9 : Tryd.prog.cellsOf 9 = 1 := by kernel_rfl

theorem bounds_i64 {z : Int} (h : (Lit.int .i64 z).wf = true) : -9223372036854775808 ≤ z ∧ z ≤ 9223372036854775807 := by
  have h' : (decide (IntKind.i64.min ≤ z) && decide (z ≤ IntKind.i64.max)) = true := h
  have e1 : IntKind.i64.min = -9223372036854775808 := by decide
  have e2 : IntKind.i64.max = 9223372036854775807 := by decide
  simp [e1, e2] at h'
  omega

theorem flat_bulk {H : Type} (f : Nat → List UInt8) (D : Nat → DataW H) : ∀ l : List Nat, (∀ i ∈ l, (f i).length ≤ 22 * Rows.uptoBulk (D i)) → (l.flatMap f).length ≤ 22 * Rows.uptoBulkAll (l.map D)
  | [], _ => by simp
  | i :: l, h => by
    have h1 := h i (by simp)
    have h2 := flat_bulk f D l (fun j hj => h j (by simp [hj]))
    simp only [List.flatMap_cons, List.length_append, List.map_cons, Rows.uptoBulkAll]
    omega
theorem bulk_at {H : Type} (D : Nat → DataW H) (n i : Nat) (spare : List (DataW H)) (hi : i < n) : Rows.uptoBulk (D i) + 1 ≤ Rows.uptoBulk (.slice ((List.range n).map D) spare) := by
  have h1 := bulk_mem (d := D i) (l := (List.range n).map D) (List.mem_map.2 ⟨i, List.mem_range.2 hi, rfl⟩)
  have h2 := (bulk_slice ((List.range n).map D) spare).1
  omega
theorem encVal_len (v : V) (h1 : -9223372036854775808 ≤ v.n) (h2 : v.n ≤ 9223372036854775807) (hs : v.s.size ≤ maxLen) : (encVal v).length ≤ 11 + v.s.size := by
  unfold maxLen at hs
  unfold encVal encTail
  have := encInt_len v.n h1 h2
  have h3 := encInt_len (v.s.size : Int) (by omega) (by omega)
  split
  · simp; omega
  · split
    · rw [List.length_cons, List.length_append, show v.s.data.toList.length = v.s.size by simp]; omega
    · simp; omega

/-- A value of no more than 'K' letters. -/
def SmallV (K : Nat) (v : V) : Prop := -9223372036854775808 ≤ v.n ∧ v.n ≤ 9223372036854775807 ∧ v.s.size ≤ K
def SmallR (K : Nat) (r : Rw) : Prop := -9223372036854775808 ≤ r.t ∧ r.t ≤ 9223372036854775807 ∧ r.vs.length ≤ K ∧ ∀ v ∈ r.vs, SmallV K v

theorem vals_in {H : Type} {enc : TypeId × Value → H} {W : World} {a : Option Addr} {len cap fuel : Nat} {x : DataW H × List MemPlace}
    (hf : DataW.trod enc Tryd.prog W 0 (fun _ => true) true fuel 52 [.slice a len cap] = some x) :
    ∃ vs : List V, vs.length = len ∧ VLies W a vs ∧ (∀ v ∈ vs, SmallV (Rows.uptoBulk x.1) v) ∧ len ≤ Rows.uptoBulk x.1 ∧ (vs.flatMap encVal).length ≤ 22 * Rows.uptoBulk x.1 := by
  rcases open_slice Tryd.underlying52 hf with ⟨hcs, _⟩ | ⟨y, l, c, m, n, D, Pl, hcs, _, hl, hm, hmm, hD, hx⟩
  · simp at hcs
    obtain ⟨rfl, rfl, rfl⟩ := hcs
    exact ⟨[], rfl, fun i hi => absurd hi (by simp), fun v hv => (by cases hv), Nat.zero_le _, by simp⟩
  · simp at hcs
    obtain ⟨rfl, rfl, rfl⟩ := hcs
    simp at hmm
    subst hmm
    rw [cells58] at hx
    have hspot : 0 < len → y.spot = none := by
      intro h0
      obtain ⟨cs', h1, h2⟩ := hx 0 (by omega)
      obtain ⟨_, hlen, hcell⟩ := World.cells?_some h1
      match cs', hlen with
      | [v0, v1, v2], _ =>
        have c0 := hcell 0 (by omega)
        rw [Deep.add_add] at c0
        obtain ⟨b, off, spot⟩ := y
        simpa [Addr.add] using World.cell?_spot c0
    have key : ∀ i, i < len → ∃ v : V, (∃ b off, some y = some (⟨b, off, none⟩ : Addr) ∧ W.cell? ⟨b, off + i * 3, none⟩ = some (.int .i64 v.k) ∧ W.cell? ⟨b, off + i * 3 + 1, none⟩ = some (.int .i64 v.n) ∧ W.cell? ⟨b, off + i * 3 + 2, none⟩ = some (.string v.s)) ∧ -9223372036854775808 ≤ v.n ∧ v.n ≤ 9223372036854775807 ∧ v.s.size ≤ maxLen ∧ v.s.size + 4 ≤ Rows.uptoBulk (D i) := by
      intro i hi
      obtain ⟨cs', h1, h2⟩ := hx i (by omega)
      obtain ⟨_, hlen, hcell⟩ := World.cells?_some h1
      obtain ⟨y0, y1, y2, n', hDi, _, g0, g1, g2⟩ := trod_struct3 Tryd.underlying57 h2
      match cs', hlen with
      | [v0, v1, v2], _ =>
        simp [cells56, cells2, cells9] at g0 g1 g2
        obtain ⟨k, e0, d0, _⟩ := DataW.trod_int Tryd.underlying55 g0
        obtain ⟨nn, e1, d1, wn⟩ := DataW.trod_int Tryd.underlying2 g1
        obtain ⟨s, e2, d2, ws⟩ := DataW.trod_string Tryd.underlying9 g2
        simp at e0 e1 e2
        subst e0 e1 e2
        have c0 := hcell 0 (by omega)
        have c1 := hcell 1 (by omega)
        have c2 := hcell 2 (by omega)
        rw [Deep.add_add] at c0 c1 c2
        have hs := hspot (by omega)
        obtain ⟨b, off, spot⟩ := y
        simp at hs
        subst hs
        rw [WideShapes.add_plain] at c0 c1 c2
        refine ⟨⟨k, nn, s⟩, ⟨b, off, rfl, by simpa using c0, by simpa [Nat.add_assoc] using c1, by simpa [Nat.add_assoc] using c2⟩, (bounds_i64 wn).1, (bounds_i64 wn).2, ws, ?_⟩
        have hb : D i = .agg [y0.1, y1.1, y2.1] := by simpa using congrArg Prod.fst hDi
        have hy2 : y2.1 = .lit (.string s.data.toList) := by simpa using congrArg Prod.fst d2
        have h5 := bulk_pos y0.1
        have h6 := bulk_pos y1.1
        have h7 := bulk_str (H := H) s.data.toList
        have h8 : s.data.toList.length = s.size := by simp
        rw [hb]
        simp only [Rows.uptoBulk, Rows.uptoBulkAll, hy2]
        simp only [Rows.uptoBulk] at h7
        simp only [h8] at *
        omega
    haveI : Inhabited V := ⟨⟨0, 0, ByteArray.empty⟩⟩
    obtain ⟨f, hf'⟩ := choose_lt key
    have hx1 : x.1 = .slice ((List.range len).map D) ((List.range (m - len)).map fun j => D (len + j)) := by rw [hD]
    refine ⟨(List.range len).map f, by simp, ?_, ?_, ?_, ?_⟩
    · intro i hi
      have hi' : i < len := by simpa using hi
      obtain ⟨b, off, e1, e2, e3, e4⟩ := (hf' i hi').1
      exact ⟨b, off, e1, by simpa using e2, by simpa using e3, by simpa using e4⟩
    · intro v hv
      obtain ⟨i, hi, rfl⟩ := List.mem_map.1 hv
      have hi' := List.mem_range.1 hi
      obtain ⟨-, b1, b2, -, b4⟩ := hf' i hi'
      have := bulk_at D len i ((List.range (m - len)).map fun j => D (len + j)) hi'
      rw [← hx1] at this
      exact ⟨b1, b2, by omega⟩
    · have := (bulk_slice ((List.range len).map D) ((List.range (m - len)).map fun j => D (len + j))).2
      rw [← hx1] at this
      simp at this
      omega
    · rw [List.flatMap_map]
      have h1 := flat_bulk (fun i => encVal (f i)) D (List.range len) (fun i hi => by
        obtain ⟨-, b1, b2, b3, b4⟩ := hf' i (List.mem_range.1 hi)
        have := encVal_len (f i) b1 b2 b3
        omega)
      have h2 := (bulk_slice ((List.range len).map D) ((List.range (m - len)).map fun j => D (len + j))).1
      rw [← hx1] at h2
      omega

theorem rows_in {H : Type} {enc : TypeId × Value → H} {W : World} {a : Option Addr} {len cap fuel : Nat} {x : DataW H × List MemPlace}
    (hf : DataW.trod enc Tryd.prog W 0 (fun _ => true) true fuel 23 [.slice a len cap] = some x) :
    ∃ rs : List Rw, rs.length = len ∧ RLies W a rs ∧ (∀ r ∈ rs, SmallR (Rows.uptoBulk x.1) r) ∧ len ≤ Rows.uptoBulk x.1 ∧ (rs.flatMap encRow).length ≤ 22 * Rows.uptoBulk x.1 := by
  rcases open_slice Tryd.underlying23 hf with ⟨hcs, _⟩ | ⟨y, l, c, m, n, D, Pl, hcs, _, hl, hm, hmm, hD, hx⟩
  · simp at hcs
    obtain ⟨rfl, rfl, rfl⟩ := hcs
    exact ⟨[], rfl, fun i hi => absurd hi (by simp), fun v hv => (by cases hv), Nat.zero_le _, by simp⟩
  · simp at hcs
    obtain ⟨rfl, rfl, rfl⟩ := hcs
    simp at hmm
    subst hmm
    rw [cells55] at hx
    have hspot : 0 < len → y.spot = none := by
      intro h0
      obtain ⟨cs', h1, h2⟩ := hx 0 (by omega)
      obtain ⟨_, hlen, hcell⟩ := World.cells?_some h1
      match cs', hlen with
      | [v0, v1], _ =>
        have c0 := hcell 0 (by omega)
        rw [Deep.add_add] at c0
        obtain ⟨b, off, spot⟩ := y
        simpa [Addr.add] using World.cell?_spot c0
    have key : ∀ i, i < len → ∃ r : Rw, (∃ b off av cv, some y = some (⟨b, off, none⟩ : Addr) ∧ W.cell? ⟨b, off + i * 2, none⟩ = some (.int .i64 r.t) ∧ W.cell? ⟨b, off + i * 2 + 1, none⟩ = some (.slice av r.vs.length cv) ∧ VLies W av r.vs) ∧ SmallR (Rows.uptoBulk (D i)) r ∧ (encRow r).length ≤ 22 * Rows.uptoBulk (D i) := by
      intro i hi
      obtain ⟨cs', h1, h2⟩ := hx i (by omega)
      obtain ⟨_, hlen, hcell⟩ := World.cells?_some h1
      obtain ⟨y0, y1, n', hDi, _, g0, g1⟩ := trod_struct2 Tryd.underlying54 h2
      match cs', hlen with
      | [v0, v1], _ =>
        simp [cells53, cells2] at g0 g1
        obtain ⟨t, e0, d0, wt⟩ := DataW.trod_int Tryd.underlying2 g0
        have hsl : ∃ a' len' cap', v1 = .slice a' len' cap' := by
          rcases open_slice Tryd.underlying52 g1 with ⟨hcs, _⟩ | ⟨_, _, _, _, _, _, _, hcs, _⟩
          · simp at hcs; exact ⟨_, _, _, hcs⟩
          · simp at hcs; exact ⟨_, _, _, hcs⟩
        obtain ⟨a', len', cap', rfl⟩ := hsl
        obtain ⟨vs, hvl, hv1, hv2, hv3, hv4⟩ := vals_in g1
        simp at e0
        subst e0
        subst hvl
        have c0 := hcell 0 (by omega)
        have c1 := hcell 1 (by omega)
        rw [Deep.add_add] at c0 c1
        have hs := hspot (by omega)
        obtain ⟨b, off, spot⟩ := y
        simp at hs
        subst hs
        rw [WideShapes.add_plain] at c0 c1
        have hb : D i = .agg [y0.1, y1.1] := by simpa using congrArg Prod.fst hDi
        have h5 := bulk_pos y0.1
        have hB : Rows.uptoBulk y1.1 + 2 ≤ Rows.uptoBulk (D i) := by
          rw [hb]
          simp only [Rows.uptoBulk, Rows.uptoBulkAll]
          omega
        have hK : Rows.uptoBulk y1.1 ≤ 549755813888 ∨ True := .inr trivial
        refine ⟨⟨t, vs⟩, ⟨b, off, a', cap', rfl, by simpa using c0, by simpa [Nat.add_assoc] using c1, hv1⟩, ⟨(bounds_i64 wt).1, (bounds_i64 wt).2, by simp only; omega, fun v hv => ⟨(hv2 v hv).1, (hv2 v hv).2.1, by have := (hv2 v hv).2.2; omega⟩⟩, ?_⟩
        have q1 := encInt_len t (bounds_i64 wt).1 (bounds_i64 wt).2
        have hlm : vs.length ≤ maxLen := by
          rcases open_slice Tryd.underlying52 g1 with ⟨hcs, _⟩ | ⟨_, l', c', _, _, _, _, hcs, _, hl', hm', _⟩
          · simp at hcs; rw [hcs.2.1]; decide
          · simp at hcs; obtain ⟨-, r2, r3⟩ := hcs; omega
        unfold maxLen at hlm
        have q2 := encInt_len (vs.length : Int) (by omega) (by omega)
        unfold encRow
        simp only [List.length_append]
        omega
    haveI : Inhabited Rw := ⟨⟨0, []⟩⟩
    obtain ⟨f, hf'⟩ := choose_lt key
    have hx1 : x.1 = .slice ((List.range len).map D) ((List.range (m - len)).map fun j => D (len + j)) := by rw [hD]
    refine ⟨(List.range len).map f, by simp, ?_, ?_, ?_, ?_⟩
    · intro i hi
      have hi' : i < len := by simpa using hi
      obtain ⟨b, off, av, cv, e1, e2, e3, e4⟩ := (hf' i hi').1
      exact ⟨b, off, av, cv, e1, by simpa using e2, by simpa using e3, by simpa using e4⟩
    · intro v hv
      obtain ⟨i, hi, rfl⟩ := List.mem_map.1 hv
      have hi' := List.mem_range.1 hi
      obtain ⟨-, ⟨b1, b2, b3, b4⟩, -⟩ := hf' i hi'
      have := bulk_at D len i ((List.range (m - len)).map fun j => D (len + j)) hi'
      rw [← hx1] at this
      exact ⟨b1, b2, by omega, fun v hv => ⟨(b4 v hv).1, (b4 v hv).2.1, by have := (b4 v hv).2.2; omega⟩⟩
    · have := (bulk_slice ((List.range len).map D) ((List.range (m - len)).map fun j => D (len + j))).2
      rw [← hx1] at this
      simp at this
      omega
    · rw [List.flatMap_map]
      have h1 := flat_bulk (fun i => encRow (f i)) D (List.range len) (fun i hi => (hf' i (List.mem_range.1 hi)).2.2)
      have h2 := (bulk_slice ((List.range len).map D) ((List.range (m - len)).map fun j => D (len + j))).1
      rw [← hx1] at h2
      omega
end Go.Proofs.YtafighjlciglpaaDoor
