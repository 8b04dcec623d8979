import Derived.Test.YtmeeoamcelkhmaaGreatDoorTbL
namespace Go.Proofs.YtmeeoamcelkhmaaGreatDoor
open Go.RowKit Go.Maps
set_option linter.unusedVariables false
set_option linter.unusedSimpArgs false
set_option maxRecDepth 100000

/-- '==' of two transactions. -/
def eqT (m1 : Int) (s1 : ByteArray) (t1 m2 : Int) (s2 : ByteArray) (t2 : Int) : Bool := m1 == m2 && (s1.toList == s2.toList && t1 == t2)
theorem eqT_iff (a b : Tx) : eqT a.m a.sn a.tk b.m b.sn b.tk = decide (a = b) := by
  unfold eqT
  by_cases h : a = b
  · rw [decide_eq_true h, h]; simp
  · rw [decide_eq_false h]
    by_cases h1 : a.m = b.m
    · by_cases h3 : a.tk = b.tk
      · have h2 : ¬ a.sn = b.sn := fun e => h (Tx.eq_of h1 e h3)
        rw [bne_str h2]; simp
      · simp [h3]
    · simp [h1]
theorem eq27 (k1 : Int) (s1 : ByteArray) (n1 k2 : Int) (s2 : ByteArray) (n2 : Int) (w : World) :
    (Op.equalIn 10000 27 (.agg #[.int .i64 k1, .string s1, .int .i64 n1]) (.agg #[.int .i64 k2, .string s2, .int .i64 n2])).run Tryz.prog w = .ok (eqT k1 s1 n1 k2 s2 n2) w := by
  have u2 := Tryz.underlying3
  have u9 := Tryz.underlying9
  have a2 := Tryz.isAgg3
  have z2 := Tryz.sizeOf3
  have a9 := Tryz.isAgg9
  have z9 := Tryz.sizeOf9
  have hS : Tryz.prog.underlying 27 = some (.struct (Tryz.prog.fieldsOf 27)) := by kernel_rfl
  rw [show (10000 : Nat) = 9999 + 1 from rfl, run_equalIn_agg w 9999 27 _ _ hS (by kernel_rfl)]
  simp only [Program.fieldsOf, Tryz.underlying27]
  go_simp
  unfold eqT
  by_cases h1 : k1 = k2 <;> by_cases h2 : n1 = n2 <;> by_cases h3 : s1.toList = s2.toList <;> simp [h1, h2, h3]
theorem guard27 : Tryz.prog.eqGuardType Tryz.prog.depth 27 = false := by kernel_rfl
theorem eql27 (k1 : Int) (s1 : ByteArray) (n1 k2 : Int) (s2 : ByteArray) (n2 : Int) (w : World) :
    (binOp .eql 27 (.agg #[.int .i64 k1, .string s1, .int .i64 n1]) (.agg #[.int .i64 k2, .string s2, .int .i64 n2])).run Tryz.prog w = .ok (.bool (eqT k1 s1 n1 k2 s2 n2)) w := by
  rw [run_eql_struct, eq27]; rfl

def cellsL (h : Hp) : List Value := [.int .i64 h.x.m, .string h.x.sn, .int .i64 h.x.tk, .slice h.ra h.rs.length h.rc]
/-- The law's list of what is held. -/
def LH (w : World) (B : Nat) (v : Value) (hs : List Hp) : Prop := w.ownsRow B 45 4 v hs.length (hs.flatMap cellsL)
theorem LH.cells {w : World} {B g c : Nat} {hs : List Hp} (h : LH w B (.slice (some ⟨g, 0, none⟩) hs.length c) hs) (i : Nat) (hi : i < hs.length) : w.cell? ⟨g, i * 4, none⟩ = some (.int .i64 hs[i].x.m) ∧ w.cell? ⟨g, i * 4 + 1, none⟩ = some (.string hs[i].x.sn) ∧ w.cell? ⟨g, i * 4 + 2, none⟩ = some (.int .i64 hs[i].x.tk) ∧ w.cell? ⟨g, i * 4 + 3, none⟩ = some (.slice hs[i].ra hs[i].rs.length hs[i].rc) := by
  have key : ∀ j, j < 4 → w.cell? ⟨g, i * 4 + j, none⟩ = (cellsL hs[i])[j]? := fun j hj => by
    rw [World.ownsRow.cellAt h (i * 4 + j) (by omega), flat_at cellsL 4 (fun _ => rfl) hs i j hi hj]
  exact ⟨key 0 (by decide), key 1 (by decide), key 2 (by decide), key 3 (by decide)⟩
theorem LH.form {w : World} {B : Nat} {v : Value} {hs : List Hp} (h : LH w B v hs) : ∃ a c, v = .slice a hs.length c ∧ (hs = [] ∧ a = none ∨ ∃ g, a = some ⟨g, 0, none⟩ ∧ B ≤ g ∧ g < w.heap.size ∧ hs.length ≤ c) := by
  rcases h.2 with ⟨h1, h2⟩ | ⟨g, c, cur, h1, h2, h3, h4, -⟩
  · exact ⟨none, 0, by rw [h1, h2], .inl ⟨List.eq_nil_of_length_eq_zero h2, rfl⟩⟩
  · refine ⟨some ⟨g, 0, none⟩, c, h1, .inr ⟨g, rfl, h2, ?_, h4⟩⟩
    rcases Nat.lt_or_ge g w.heap.size with h | h
    · exact h
    · rw [Array.getElem?_eq_none h] at h3; cases h3

attribute [local go_sem ↓] eql27
attribute [local go_sem] guard27
set_option maxHeartbeats 2000000 in
/-- Nothing held of this transaction stands ahead of the k-th: there it is, or there is none at all. -/
theorem find_any (w : World) (B : Nat) (v : Value) (hs : List Hp) (x : Tx) (k : Nat) (h : LH w B v hs) (hn : hs.length ≤ 1099511627776) (hk : k ≤ hs.length) (hbe : ∀ i (hi : i < hs.length), i < k → ¬ hs[i].x = x) (hat : ∀ (hi : k < hs.length), hs[k].x = x) (r : Int) (hr : r = if k < hs.length then (k : Int) else -1) :
    Calls Tryz.prog 5 #[v, vv x] w fun e w' => e = .returned (.int .i64 r) ∧ Below w.heap.size w w' := by
  obtain ⟨a, c, rfl, hcase⟩ := h.form
  have hB := bel1 w (.cells #[.int .i64 x.m, .string x.sn, .int .i64 x.tk] 27)
  have d0 : (w.alloc (.cells #[.int .i64 x.m, .string x.sn, .int .i64 x.tk] 27)).cell? ⟨w.heap.size, 0, none⟩ = some (.int .i64 x.m) := by simp
  have d1 : (w.alloc (.cells #[.int .i64 x.m, .string x.sn, .int .i64 x.tk] 27)).cell? ⟨w.heap.size, 1, none⟩ = some (.string x.sn) := by simp
  have d2 : (w.alloc (.cells #[.int .i64 x.m, .string x.sn, .int .i64 x.tk] 27)).cell? ⟨w.heap.size, 2, none⟩ = some (.int .i64 x.tk) := by simp
  have HL : Hid (LH (w.alloc (.cells #[.int .i64 x.m, .string x.sn, .int .i64 x.tk] 27)) B (.slice a hs.length c) hs) := own_later h hB
  have HBB := hidMk hB
  have HB := hidMk hbe
  have HA := hidMk hat
  have HR := hidMk hr
  generalize hW : w.alloc (.cells #[.int .i64 x.m, .string x.sn, .int .i64 x.tk] 27) = W at *
  clear h hbe hat hr hB
  unfold vv
  go_enter Tryz.func5, Tryz.ntmps5
  go_wp2_with fail
  try rw [hW]
  clear hW
  go_loopg [5] hs.length (fun gk i wr => ∃ j : Nat, gk + j = hs.length ∧ j ≤ k ∧ i = .int .i64 j ∧ Below W.heap.size W wr)
  case atStart => exact ⟨0, by omega, by omega, rfl, Below.refl _ _⟩
  case round =>
    obtain ⟨j, hgk, hjk, rfl, hbl⟩ := hrel
    have HBL := hidMk hbl
    by_cases hj : j < hs.length
    · have hj' : (j : Int) < (hs.length : Int) := by omega
      obtain ⟨g, rfl, -⟩ : ∃ g, a = some ⟨g, 0, none⟩ ∧ True := by
        rcases hcase with ⟨h1, -⟩ | ⟨g, h1, -⟩
        · rw [h1] at hj; simp at hj
        · exact ⟨g, h1, trivial⟩
      obtain ⟨c0, c1, c2, -⟩ := HL.out.cells j hj
      have c0 := cell_later hbl c0
      have c1 := cell_later hbl c1
      have c2 := cell_later hbl c2
      have e0 := cell_later hbl d0
      have e1 := cell_later hbl d1
      have e2 := cell_later hbl d2
      clear hcase hbl
      by_cases hjk' : j = k
      · have hq : eqT hs[j].x.m hs[j].x.sn hs[j].x.tk x.m x.sn x.tk = true := by rw [eqT_iff]; exact decide_eq_true (by subst hjk'; exact HA.out hj)
        have HJ := hidMk hjk'
        clear hjk'
        generalize hs[j].x = y at *
        go_wp2_with fail
        go_region
        all_goals
          go_wp2_with fail
          go_ret
          exact ⟨ret_int (by rw [HR.out, if_pos (HJ.out ▸ hj), HJ.out]), HBB.out.trans ((below_drewN HBL.out 1).mono HBB.out.size)⟩
      · have hq : eqT hs[j].x.m hs[j].x.sn hs[j].x.tk x.m x.sn x.tk = false := by rw [eqT_iff]; exact decide_eq_false (HB.out j hj (by omega))
        have hjk2 : j + 1 ≤ k := by omega
        generalize hs[j].x = y at *
        go_wp2_with fail
        go_region
        all_goals
          go_wp2_with fail
          go_roundg (gk - 1)
          case measure => omega
          case rel => exact ⟨j + 1, by omega, by omega, by go_num, below_drewN HBL.out 1⟩
    · have hj' : ¬ (j : Int) < (hs.length : Int) := by omega
      have hkn : ¬ k < hs.length := by omega
      clear hbl
      go_wp2_with fail
      go_ret
      exact ⟨ret_int (by rw [HR.out, if_neg hkn]), HBB.out.trans (HBL.out.mono HBB.out.size)⟩
end Go.Proofs.YtmeeoamcelkhmaaGreatDoor
