import Derived.Test.YtdbboaebigpkoaaGreatDoorVaB
namespace Go.Proofs.YtdbboaebigpkoaaGreatDoor
open Go.RowKit
set_option linter.unusedVariables false
set_option linter.unusedSimpArgs false
set_option maxRecDepth 100000

/-- The document's words for a value that is one. -/
def validW (v : V) : Bool :=
  if v.k = 0 then decide (v.n = 0) && decide (v.s.size = 0)
  else if v.k = 1 then decide (v.s.size = 0)
  else if v.k = 2 then decide (v.s.size = 0) && (decide (v.n = 0) || decide (v.n = 1))
  else if v.k = 3 then decide (v.n = 0) && decide (v.s.size ≤ 60)
  else false
theorem isE (s : ByteArray) : s.toList.isEmpty = decide (s.size = 0) := by
  rw [ByteArray.toList_eq]
  have h : s.data.toList.length = s.size := by simp
  cases hl : s.data.toList with
  | nil => rw [hl] at h; have h' : s.size = 0 := h.symm; rw [h']; rfl
  | cons a r => rw [hl] at h; have h' : s.size = r.length + 1 := h.symm; rw [h']; rfl

theorem validB_V (v : V) : validB v.k v.n v.s = validW v := by
  have h : (v.s.toList == []) = decide (v.s.size = 0) := by
    rw [← isE]; cases v.s.toList <;> rfl
  have h60 : decide ((v.s.size : Int) ≤ 60) = decide (v.s.size ≤ 60) := by
    rw [decide_eq_decide]; omega
  unfold validB validW
  rw [h, h60]
  simp only [show ∀ a b : Int, (a == b) = decide (a = b) from fun a b => rfl]

set_option maxHeartbeats 2000000 in
theorem refValid_any (x : V) (w : World) (hs : x.s.size ≤ maxLen) :
    Calls Tryz.prog 11 #[.agg #[.int .i64 x.k, .int .i64 x.n, .string x.s]] w fun e w' => e = .returned (.bool (validW x)) ∧ Below w.heap.size w w' := by
  unfold maxLen at hs
  obtain ⟨k, n, s⟩ := x
  simp only at hs
  show Calls Tryz.prog 11 #[.agg #[.int .i64 k, .int .i64 n, .string s]] w fun e w' => e = .returned (.bool (validW ⟨k, n, s⟩)) ∧ Below w.heap.size w w'
  have HS : Hid (s.toList.isEmpty = decide (s.size = 0)) := isE s
  have HV : Hid (validW ⟨k, n, s⟩ = (if k = 0 then decide (n = 0) && decide (s.size = 0)
    else if k = 1 then decide (s.size = 0)
    else if k = 2 then decide (s.size = 0) && (decide (n = 0) || decide (n = 1))
    else if k = 3 then decide (n = 0) && decide (s.size ≤ 60)
    else false)) := rfl
  by_cases h0 : k = 0
  · subst h0
    by_cases hn : n = 0
    · subst hn
      go_enter Tryz.func11, Tryz.ntmps11
      go_wp2
      go_ret
      exact ⟨ret_bool (by rw [HV.out, HS.out]; simp), bel1 _ _⟩
    · have hn' : (n == 0) = false := by simpa using hn
      go_enter Tryz.func11, Tryz.ntmps11
      go_wp2
      go_ret
      exact ⟨ret_bool (by rw [HV.out]; simp [hn]), bel1 _ _⟩
  · by_cases h1 : k = 1
    · subst h1
      go_enter Tryz.func11, Tryz.ntmps11
      go_wp2
      go_ret
      exact ⟨ret_bool (by rw [HV.out, HS.out]; simp), bel1 _ _⟩
    · by_cases h2 : k = 2
      · subst h2
        cases he : s.toList.isEmpty with
        | false =>
          rw [he] at HS
          go_enter Tryz.func11, Tryz.ntmps11
          go_wp2
          go_ret
          exact ⟨ret_bool (by rw [HV.out, ← HS.out]; simp), bel1 _ _⟩
        | true =>
          rw [he] at HS
          by_cases hn : n = 0
          · subst hn
            go_enter Tryz.func11, Tryz.ntmps11
            go_wp2
            go_ret
            exact ⟨ret_bool (by rw [HV.out, ← HS.out]; simp), bel1 _ _⟩
          · have hn' : (n == 0) = false := by simpa using hn
            go_enter Tryz.func11, Tryz.ntmps11
            go_wp2
            go_ret
            exact ⟨ret_bool (by rw [HV.out, ← HS.out]; simp [hn]; rfl), bel1 _ _⟩
      · by_cases h3 : k = 3
        · subst h3
          by_cases hn : n = 0
          · subst hn
            go_enter Tryz.func11, Tryz.ntmps11
            go_wp2
            go_ret
            exact ⟨ret_bool (by rw [HV.out]; simp; omega), bel1 _ _⟩
          · have hn' : (n == 0) = false := by simpa using hn
            go_enter Tryz.func11, Tryz.ntmps11
            go_wp2
            go_ret
            exact ⟨ret_bool (by rw [HV.out]; simp [hn]), bel1 _ _⟩
        · go_enter Tryz.func11, Tryz.ntmps11
          go_wp2
          go_ret
          exact ⟨ret_bool (by rw [HV.out]; simp [h0, h1, h2, h3]), bel1 _ _⟩


theorem refValidV (x : V) (w : World) (hs : x.s.size ≤ maxLen) :
    Calls Tryz.prog 11 #[.agg #[.int .i64 x.k, .int .i64 x.n, .string x.s]] w fun e w' => e = .returned (.bool (validV x)) ∧ Below w.heap.size w w' := by
  have := refValid_any x w hs
  rw [← validB_V] at this
  exact this

end Go.Proofs.YtdbboaebigpkoaaGreatDoor
