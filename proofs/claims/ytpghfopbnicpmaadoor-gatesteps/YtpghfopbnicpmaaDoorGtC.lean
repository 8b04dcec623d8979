import Derived.Test.YtpghfopbnicpmaaDoorGtB
namespace Go.Proofs.YtpghfopbnicpmaaDoor
open Go.RowKit
set_option linter.unusedVariables false
set_option linter.unusedSimpArgs false
set_option maxRecDepth 100000
theorem made_filled (e : En) (n : Nat) : madeCells #[.int .i64 0, .bool false] (n * 2) = (filled e 0 n).toArray := by
  apply Array.ext
  · rw [size_madeCells]; simp [len_filled]
  · intro i h1 h2
    rw [size_madeCells] at h1
    have hl : i / 2 < (List.replicate 0 e ++ List.replicate (n - 0) (En.mk 0 false)).length := by simp; omega
    have := flat_at cellsE 2 (fun _ => rfl) (List.replicate 0 e ++ List.replicate (n - 0) (En.mk 0 false)) (i / 2) (i % 2) hl (by omega)
    rw [show i / 2 * 2 + i % 2 = i by omega] at this
    have e0 : (List.replicate 0 e ++ List.replicate (n - 0) (En.mk 0 false))[i / 2] = En.mk 0 false := by simp
    rw [e0] at this
    simp only [madeCells, List.getElem_toArray]
    have h3 : (filled e 0 n)[i]? = some (filled e 0 n)[i] := by simp [List.getElem?_eq_getElem (by simpa using h2)]
    unfold filled at h3
    rw [this] at h3
    unfold filled
    rcases Nat.mod_two_eq_zero_or_one i with h0 | h0
    · rw [h0] at h3; simp [cellsE] at h3; simp [h0, ← h3]
    · rw [h0] at h3; simp [cellsE] at h3; simp [h0, ← h3]
/-- So many copies of an element. -/
def cop (e : En) (j : Nat) : List Value := (List.replicate j e).flatMap cellsE
theorem len_cop (e : En) (j : Nat) : (cop e j).length = j * 2 := by unfold cop; rw [len_cellsE]; simp
theorem one_cop (e : En) (j : Nat) : ∀ v ∈ cop e j, v.oneCell' = true := by intro v hv; obtain ⟨e, _, hu⟩ := List.mem_flatMap.1 hv; exact one_cellsE e v hu
theorem cop_at (e : En) (j i : Nat) (v : Value) (h : (cop e j)[i]? = some v) : i < j * 2 ∧ (i = i / 2 * 2 ∧ v = .int .i64 e.t ∨ i = i / 2 * 2 + 1 ∧ v = .bool e.b) := by
  have hl := (List.getElem?_eq_some_iff.1 h).1
  rw [len_cop] at hl
  have := flat_at cellsE 2 (fun _ => rfl) (List.replicate j e) (i / 2) (i % 2) (by simp; omega) (by omega)
  rw [show i / 2 * 2 + i % 2 = i by omega] at this
  unfold cop at h
  rw [h] at this
  refine ⟨hl, ?_⟩
  rcases Nat.mod_two_eq_zero_or_one i with h0 | h0
  · rw [h0] at this; simp [cellsE] at this; exact .inl ⟨by omega, this⟩
  · rw [h0] at this; simp [cellsE] at this; exact .inr ⟨by omega, this⟩
theorem splice_cop (e : En) (m j n : Nat) (h : m + j ≤ n) : splice (filled e m n) (m * 2) (cop e j) = filled e (m + j) n := splice_filled e m j n h
theorem repeat_any (t : Int) (b : Bool) (g c : Nat) (n : Nat) (h1 : 1 ≤ n) (hn : n ≤ 64) (w : World) (c0 : w.cell? ⟨g, 0, none⟩ = some (.int .i64 t)) (c1 : w.cell? ⟨g, 1, none⟩ = some (.bool b)) :
    Calls Tryd.prog 14 #[.slice (some ⟨g, 0, none⟩) 1 c, .int .i64 n] w fun e w' => ∃ k, e = .returned (.slice (some ⟨k, 0, none⟩) n n) ∧ w.heap.size ≤ k ∧ w'.heap[k]? = some (.cells (filled ⟨t, b⟩ n n).toArray 57 (0, 0)) ∧ Below w.heap.size w w' := by
  obtain ⟨i0, hi, hz0, hz1, hz2⟩ := info_parts infoE
  have hmk : ∀ W : World, (Instr.makeSlice 58 (.int .i64 (n : Int)) (.int .i64 (n : Int))).run Tryd.prog W = .ok (.slice (some ⟨W.heap.size, 0, none⟩) n n) (W.alloc (.cells (madeCells #[.int .i64 0, .bool false] (n * 2)) 57)) := fun W => by
    have := run_make (P := Tryd.prog) W 58 57 i0 (.agg #[.int .i64 0, .bool false]) Tryd.underlying58 hi hz0 .i64 .i64 (n : Int) (n : Int) (by omega) (by omega) (by rw [hz2]; omega) (by omega)
    rw [this, hz1]
    rw [show ((n : Int)).toNat = n by omega]
    rfl
  go_enter Tryd.func14, Tryd.ntmps14
  have h4 : IntKind.u64.wrap (n : Int) = (n : Int) := wrapN n (by omega)
  have h5 : IntKind.i64.wrap (n : Int) = (n : Int) := wi64 (by omega) (by omega)
  go_wp2_with fail
  refine (mul_one' n hn w).mono ?_
  rintro e w1 ⟨rfl, rfl⟩
  have C0 := hidMk c0
  have C1 := hidMk c1
  have HG0 : Hid ((w1.alloc (.cells (madeCells #[.int .i64 0, .bool false] (n * 2)) 57)).heap[w1.heap.size]? = some (.cells (filled ⟨t, b⟩ 0 n).toArray 57 (0, 0))) := by
    rw [Hid, heap_alloc_new, made_filled ⟨t, b⟩]
  clear c0 c1
  have hmin : Nat.min 1 n = 1 := Nat.min_eq_left h1
  have hcl : (cop (En.mk t b) 1).length = Nat.min 1 n * 2 := by rw [len_cop, hmin]
  have HSRC : Hid (∀ (j : Nat) v, (cop (En.mk t b) 1)[j]? = some v → (w1.alloc (.cells (madeCells #[.int .i64 0, .bool false] (n * 2)) 57)).cell? ((⟨g, 0, none⟩ : Addr).add j) = some v) := by
    intro j v hj
    rw [WideShapes.add_plain]
    have hb := bel1 w1 (.cells (madeCells #[.int .i64 0, .bool false] (n * 2)) 57)
    obtain ⟨h2, ⟨e1, rfl⟩ | ⟨e1, rfl⟩⟩ := cop_at _ _ _ _ hj
    · obtain rfl : j = 0 := by omega
      exact cell_later hb C0.out
    · obtain rfl : j = 1 := by omega
      exact cell_later hb C1.out
  have HFIT : Hid (0 + (cop (En.mk t b) 1).length ≤ (filled (En.mk t b) 0 n).length) := by unfold Hid; rw [len_cop, len_filled _ _ _ (by omega)]; omega
  have HONE : Hid (∀ v ∈ cop (En.mk t b) 1, v.oneCell' = true) := one_cop _ _
  have HCL := hidMk hcl
  have HMIN := hidMk hmin
  clear hcl hmin
  go_wp2_with (first
    | fail
    | (refine wpList_copy_ko rfl _ _ 58 58 rfl 57 2 Tryd.underlying58 sizeE w1.heap.size 0 n n ⟨g, 0, none⟩ 1 c rfl rfl (filled ⟨t, b⟩ 0 n) 57 HG0.out (cop (En.mk t b) 1) HCL.out HSRC.out HFIT.out HONE.out w1.heap.size w1 (bel1 _ _) (Nat.le_refl _) ?_))
  intro w2 hg2 hb2
  have HG2 : Hid (w2.heap[w1.heap.size]? = some (.cells (filled ⟨t, b⟩ 1 n).toArray 57 (0, 0))) := by
    have := hg2.out
    have h9 := splice_cop ⟨t, b⟩ 0 1 n (by omega)
    rw [Nat.zero_mul] at h9
    rw [h9] at this
    exact this
  have HB2 := hidMk hb2
  clear hg2 hb2 HSRC HFIT HONE HCL HMIN HG0
  go_wp2
  go_loopg [8] (n - 1) (fun gk i wr => ∃ (m : Nat), gk + m = n ∧ 1 ≤ m ∧ m ≤ n ∧ i = .int .i64 m ∧ wr.heap[w1.heap.size]? = some (.cells (filled ⟨t, b⟩ m n).toArray 57 (0, 0)) ∧ Below w1.heap.size w1 wr)
  case atStart => exact ⟨1, by omega, by omega, by omega, rfl, HG2.out, HB2.out⟩
  case round =>
    obtain ⟨m, hgk, hm1, hmn, rfl, hg, hb⟩ := hrel
    have HG := hidMk hg
    have HB := hidMk hb
    clear hg hb HG2 HB2
    by_cases hlt : m < n
    · have hlt' : (m : Int) < (n : Int) := by omega
      obtain ⟨j, hj⟩ : ∃ j, j = Nat.min m (n - m) := ⟨_, rfl⟩
      have hj1 : 1 ≤ j := by rw [hj]; exact Nat.le_min.2 ⟨by omega, by omega⟩
      have hj2 : m + j ≤ n := by have : j ≤ n - m := by rw [hj]; exact Nat.min_le_right _ _
                                 omega
      have hj3 : j ≤ m := by rw [hj]; exact Nat.min_le_left _ _
      have HCL : Hid ((cop (En.mk t b) j).length = Nat.min m (n - m) * 2) := by rw [Hid, len_cop, hj]
      have HJ := hidMk hj
      have HSRC : Hid (∀ (i : Nat) v, (cop (En.mk t b) j)[i]? = some v → wr.drew.cell? ((⟨w1.heap.size, 0, none⟩ : Addr).add i) = some v) := by
        intro i v hi
        rw [WideShapes.add_plain]
        obtain ⟨h2, h3⟩ := cop_at _ _ _ _ hi
        have h4 := filled_at (En.mk t b) m n (i / 2) (by omega) v i h3
        rw [Nat.zero_add]
        have hh := HG.out
        have hd : wr.drew.heap[w1.heap.size]? = some (.cells (filled ⟨t, b⟩ m n).toArray 57 (0, 0)) := hh
        simp [World.cell?, hd]
        exact h4
      have HGD : Hid (wr.drew.heap[w1.heap.size]? = some (.cells (filled ⟨t, b⟩ m n).toArray 57 (0, 0))) := HG.out
      have HBD : Hid (Below w1.heap.size w1 wr.drew) := HB.out.drew
      have HFIT : Hid (m * 2 + (cop (En.mk t b) j).length ≤ (filled (En.mk t b) m n).length) := by unfold Hid; rw [len_cop, len_filled _ _ _ (by omega)]; omega
      have HS1 := slice_fromE w1.heap.size n n m (by omega) (by omega)
      have HS2 := slice_toE w1.heap.size 0 n n m (by omega)
      have hrun : (Builtin.copy_ #[58, 58] 3 #[.slice (some ⟨w1.heap.size, m * 2, none⟩) (n - m) (n - m), .slice (some ⟨w1.heap.size, 0, none⟩) m n]).run Tryd.prog wr.drew = .ok (.int .i64 (j : Int)) (wr.drew.setRow w1.heap.size (filled ⟨t, b⟩ (m + j) n).toArray) := by
        have := run_copy_ko (P := Tryd.prog) wr.drew 58 58 3 57 2 w1.heap.size (m * 2) (n - m) (n - m) ⟨w1.heap.size, 0, none⟩ m n (filled ⟨t, b⟩ m n) 57 (cop (En.mk t b) j) Tryd.underlying58 sizeE HGD.out HCL.out HSRC.out HFIT.out (one_cop _ _)
        rw [this, splice_cop _ _ _ _ hj2, ← hj]
        rfl
      have HG3 : Hid ((wr.drew.setRow w1.heap.size (filled ⟨t, b⟩ (m + j) n).toArray).heap[w1.heap.size]? = some (.cells (filled ⟨t, b⟩ (m + j) n).toArray 57 (0, 0))) := setRow_heap wr.drew w1.heap.size _ _ _ _ HGD.out
      have HB3 : Hid (Below w1.heap.size w1 (wr.drew.setRow w1.heap.size (filled ⟨t, b⟩ (m + j) n).toArray)) := below_setRow HBD.out (Nat.le_refl _) _
      generalize hw5 : wr.drew.setRow w1.heap.size (filled ⟨t, b⟩ (m + j) n).toArray = w5 at *
      have hwm : IntKind.i64.wrap ((m : Int) + (j : Int)) = ((m + j : Nat) : Int) := by rw [wi64 (by omega) (by omega)]; omega
      have hwm2 : wrap64 ((m : Int) + (j : Int)) = ((m + j : Nat) : Int) := by rw [w64 (by omega) (by omega)]; omega
      clear hj hw5 HG HB HGD HBD HSRC HFIT HCL HJ
      go_upto_region 9 with fail
      go_region
      go_wp2
      go_roundg (gk - j)
      case measure => omega
      case rel => exact ⟨m + j, by omega, by omega, by omega, rfl, HG3.out, HB3.out⟩
    · have hlt' : ¬ (m : Int) < (n : Int) := by omega
      obtain rfl : m = n := by omega
      go_wp2
      go_ret
      exact ⟨w1.heap.size, rfl, Nat.le_refl _, HG.out, HB.out⟩
end Go.Proofs.YtpghfopbnicpmaaDoor
