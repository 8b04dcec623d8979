import Derived.Test.YtojfhlhajemhdaaDoorDsI
namespace Go.Proofs.YtojfhlhajemhdaaDoor
open Go.RowKit
set_option linter.unusedVariables false
set_option linter.unusedSimpArgs false
set_option maxRecDepth 100000

def cellsF (f : Fl) : List Value := [.string f.nm, .slice f.la f.bs.length f.lc, .bool f.ls]
/-- The law's list of files. -/
def LF (w : World) (B : Nat) (x : Value) (fs : List Fl) : Prop := w.ownsRow B 36 3 x fs.length (fs.flatMap cellsF)
theorem LF.form {w : World} {B : Nat} {x : Value} {fs : List Fl} (h : LF w B x fs) : ∃ a c, x = .slice a fs.length c ∧ (fs = [] ∧ a = none ∨ ∃ g, a = some ⟨g, 0, none⟩ ∧ B ≤ g ∧ g < w.heap.size ∧ fs.length ≤ c ∧ ∀ i (hi : i < fs.length), w.cell? ⟨g, i * 3, none⟩ = some (.string fs[i].nm) ∧ w.cell? ⟨g, i * 3 + 1, none⟩ = some (.slice fs[i].la fs[i].bs.length fs[i].lc) ∧ w.cell? ⟨g, i * 3 + 2, none⟩ = some (.bool fs[i].ls)) := by
  rcases h.2 with ⟨h1, h2⟩ | ⟨g, c, cur, h1, h2, h3, h4, -⟩
  · exact ⟨none, 0, by rw [h1, h2], .inl ⟨List.eq_nil_of_length_eq_zero h2, rfl⟩⟩
  · refine ⟨some ⟨g, 0, none⟩, c, h1, .inr ⟨g, rfl, h2, ?_, h4, fun i hi => ?_⟩⟩
    · rcases Nat.lt_or_ge g w.heap.size with h | h
      · exact h
      · rw [Array.getElem?_eq_none h] at h3; cases h3
    · rw [h1] at h
      have key : ∀ j, j < 3 → w.cell? ⟨g, i * 3 + j, none⟩ = (cellsF fs[i])[j]? := fun j hj => by
        rw [World.ownsRow.cellAt h (i * 3 + j) (by omega), flat_at cellsF 3 (fun _ => rfl) fs i j hi hj]
      exact ⟨key 0 (by decide), key 1 (by decide), key 2 (by decide)⟩
theorem LF.cells {w : World} {B g c : Nat} {fs : List Fl} (h : LF w B (.slice (some ⟨g, 0, none⟩) fs.length c) fs) (i : Nat) (hi : i < fs.length) : w.cell? ⟨g, i * 3, none⟩ = some (.string fs[i].nm) ∧ w.cell? ⟨g, i * 3 + 1, none⟩ = some (.slice fs[i].la fs[i].bs.length fs[i].lc) ∧ w.cell? ⟨g, i * 3 + 2, none⟩ = some (.bool fs[i].ls) := by
  have key : ∀ j, j < 3 → w.cell? ⟨g, i * 3 + j, none⟩ = (cellsF fs[i])[j]? := fun j hj => by
    rw [World.ownsRow.cellAt h (i * 3 + j) (by omega), flat_at cellsF 3 (fun _ => rfl) fs i j hi hj]
  exact ⟨key 0 (by decide), key 1 (by decide), key 2 (by decide)⟩

set_option maxHeartbeats 1000000 in
/-- No file of this name stands ahead of the k-th: there it is, or there is none at all. -/
theorem find_any (w : World) (B : Nat) (x : Value) (fs : List Fl) (nm : ByteArray) (k : Nat) (h : LF w B x fs) (hn : fs.length ≤ 2513169434880) (hk : k ≤ fs.length) (hbe : ∀ i (hi : i < fs.length), i < k → ¬ fs[i].nm = nm) (hat : ∀ (hi : k < fs.length), fs[k].nm = nm) (r : Int) (hr : r = if k < fs.length then (k : Int) else -1) :
    Calls Tryd.prog 5 #[x, .string nm] w fun e w' => e = .returned (.int .i64 r) ∧ w' = w := by
  obtain ⟨a, c, rfl, hcase⟩ := h.form
  have HL := hidMk h
  have HB := hidMk hbe
  have HA := hidMk hat
  have HR := hidMk hr
  clear h hbe hat hr
  go_enter Tryd.func5, Tryd.ntmps5
  go_wp2_with fail
  go_loopg [5] fs.length (fun gk i wr => ∃ j : Nat, gk + j = fs.length ∧ j ≤ k ∧ i = .int .i64 j ∧ wr = w)
  case atStart => exact ⟨0, by omega, by omega, rfl, rfl⟩
  case round =>
    obtain ⟨j, hgk, hjk, rfl, rfl⟩ := hrel
    by_cases hj : j < fs.length
    · have hj' : (j : Int) < (fs.length : Int) := by omega
      obtain ⟨g, rfl, -⟩ : ∃ g, a = some ⟨g, 0, none⟩ ∧ True := by
        rcases hcase with ⟨h1, -⟩ | ⟨g, h1, -⟩
        · rw [h1] at hj; simp at hj
        · exact ⟨g, h1, trivial⟩
      obtain ⟨c0, -, -⟩ := HL.out.cells j hj
      clear hcase
      by_cases hjk' : j = k
      · subst hjk'
        have hs := HA.out hj
        rw [hs] at c0
        have hb := beq_str (rfl : nm = nm)
        go_wp2_with fail
        go_ret
        exact ⟨ret_int (by rw [HR.out, if_pos hj]), rfl⟩
      · have hs := bne_str (HB.out j hj (by omega))
        have hjk2 : j + 1 ≤ k := by omega
        generalize fs[j].nm = s at *
        go_wp2_with fail
        go_roundg (gk - 1)
        case measure => omega
        case rel => exact ⟨j + 1, by omega, by omega, by go_num, rfl⟩
    · have hj' : ¬ (j : Int) < (fs.length : Int) := by omega
      have hkn : ¬ k < fs.length := by omega
      go_wp2_with fail
      go_ret
      exact ⟨ret_int (by rw [HR.out, if_neg hkn]), rfl⟩
end Go.Proofs.YtojfhlhajemhdaaDoor
