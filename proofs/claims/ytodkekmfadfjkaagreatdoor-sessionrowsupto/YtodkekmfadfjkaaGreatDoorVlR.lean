import Derived.Test.YtodkekmfadfjkaaGreatDoorVlB
namespace Go.Proofs.YtodkekmfadfjkaaGreatDoor
open Go.RowKit
set_option linter.unusedVariables false
set_option linter.unusedSimpArgs false
set_option maxRecDepth 100000

/-- The document's words for a value that is one. -/
def validW (v : V) : Bool :=
  if v.k = 0 then decide (v.n = 0) && decide (v.s.size = 0)
  else if v.k = 1 then decide (v.s.size = 0)
  else if v.k = 2 then decide (v.s.size = 0) && (decide (v.n = 0) || decide (v.n = 1))
  else if v.k = 3 then decide (v.n = 0) && decide (v.s.size ≤ 60)
  else false
theorem isE (s : ByteArray) : s.toList.isEmpty = decide (s.size = 0) := by
  rw [ByteArray.toList_eq]
  have h : s.data.toList.length = s.size := by simp
  cases hl : s.data.toList with
  | nil => rw [hl] at h; have h' : s.size = 0 := h.symm; rw [h']; rfl
  | cons a r => rw [hl] at h; have h' : s.size = r.length + 1 := h.symm; rw [h']; rfl

theorem validB_V (v : V) : validB v.k v.n v.s = validW v := by
  have h : (v.s.toList == []) = decide (v.s.size = 0) := by
    rw [← isE]; cases v.s.toList <;> rfl
  have h60 : decide ((v.s.size : Int) ≤ 60) = decide (v.s.size ≤ 60) := by
    rw [decide_eq_decide]; omega
  unfold validB validW
  rw [h, h60]
  simp only [show ∀ a b : Int, (a == b) = decide (a = b) from fun a b => rfl]

set_option maxHeartbeats 2000000 in
theorem refValid_any (x : V) (w : World) (hs : x.s.size ≤ maxLen) :
    Calls Tryz.prog 15 #[.agg #[.int .i64 x.k, .int .i64 x.n, .string x.s]] w fun e w' => e = .returned (.bool (validW x)) ∧ Below w.heap.size w w' := by
  unfold maxLen at hs
  obtain ⟨k, n, s⟩ := x
  simp only at hs
  show Calls Tryz.prog 15 #[.agg #[.int .i64 k, .int .i64 n, .string s]] w fun e w' => e = .returned (.bool (validW ⟨k, n, s⟩)) ∧ Below w.heap.size w w'
  have HS : Hid (s.toList.isEmpty = decide (s.size = 0)) := isE s
  have HV : Hid (validW ⟨k, n, s⟩ = (if k = 0 then decide (n = 0) && decide (s.size = 0)
    else if k = 1 then decide (s.size = 0)
    else if k = 2 then decide (s.size = 0) && (decide (n = 0) || decide (n = 1))
    else if k = 3 then decide (n = 0) && decide (s.size ≤ 60)
    else false)) := rfl
  by_cases h0 : k = 0
  · subst h0
    by_cases hn : n = 0
    · subst hn
      go_enter Tryz.func15, Tryz.ntmps15
      go_wp2
      go_ret
      exact ⟨ret_bool (by rw [HV.out, HS.out]; simp), bel1 _ _⟩
    · have hn' : (n == 0) = false := by simpa using hn
      go_enter Tryz.func15, Tryz.ntmps15
      go_wp2
      go_ret
      exact ⟨ret_bool (by rw [HV.out]; simp [hn]), bel1 _ _⟩
  · by_cases h1 : k = 1
    · subst h1
      go_enter Tryz.func15, Tryz.ntmps15
      go_wp2
      go_ret
      exact ⟨ret_bool (by rw [HV.out, HS.out]; simp), bel1 _ _⟩
    · by_cases h2 : k = 2
      · subst h2
        cases he : s.toList.isEmpty with
        | false =>
          rw [he] at HS
          go_enter Tryz.func15, Tryz.ntmps15
          go_wp2
          go_ret
          exact ⟨ret_bool (by rw [HV.out, ← HS.out]; simp), bel1 _ _⟩
        | true =>
          rw [he] at HS
          by_cases hn : n = 0
          · subst hn
            go_enter Tryz.func15, Tryz.ntmps15
            go_wp2
            go_ret
            exact ⟨ret_bool (by rw [HV.out, ← HS.out]; simp), bel1 _ _⟩
          · have hn' : (n == 0) = false := by simpa using hn
            go_enter Tryz.func15, Tryz.ntmps15
            go_wp2
            go_ret
            exact ⟨ret_bool (by rw [HV.out, ← HS.out]; simp [hn]; rfl), bel1 _ _⟩
      · by_cases h3 : k = 3
        · subst h3
          by_cases hn : n = 0
          · subst hn
            go_enter Tryz.func15, Tryz.ntmps15
            go_wp2
            go_ret
            exact ⟨ret_bool (by rw [HV.out]; simp; omega), bel1 _ _⟩
          · have hn' : (n == 0) = false := by simpa using hn
            go_enter Tryz.func15, Tryz.ntmps15
            go_wp2
            go_ret
            exact ⟨ret_bool (by rw [HV.out]; simp [hn]), bel1 _ _⟩
        · go_enter Tryz.func15, Tryz.ntmps15
          go_wp2
          go_ret
          exact ⟨ret_bool (by rw [HV.out]; simp [h0, h1, h2, h3]), bel1 _ _⟩


theorem refValidV (x : V) (w : World) (hs : x.s.size ≤ maxLen) :
    Calls Tryz.prog 15 #[.agg #[.int .i64 x.k, .int .i64 x.n, .string x.s]] w fun e w' => e = .returned (.bool (validV x)) ∧ Below w.heap.size w w' := by
  have := refValid_any x w hs
  rw [← validB_V] at this
  exact this

set_option maxHeartbeats 2000000 in
theorem refValidRow_any (r : Rw) (av : Option Addr) (cv : Nat) (w : World) (hl : VLies w av r.vs) (hg : r.vs.length ≤ maxLen ∧ ∀ v ∈ r.vs, v.s.size ≤ maxLen) :
    Calls Tryz.prog 8 #[.agg #[.int .i64 r.t, .slice av r.vs.length cv]] w fun e w' => e = .returned (.bool (validR r)) ∧ Below w.heap.size w w' := by
  have HL : Hid (VLies w av r.vs) := hl
  have HG : Hid (∀ v ∈ r.vs, v.s.size ≤ maxLen) := hg.2
  have hvl := hg.1
  unfold maxLen at hvl
  have HR : Hid (validR r = (r.vs.all validV && (decide (0 ≤ r.t) && decide (r.t ≤ 1099511627776) && decide (r.vs.length ≤ 8)))) := rfl
  clear hl hg
  generalize r.vs = vs at *
  generalize r.t = T at *
  go_enter Tryz.func8, Tryz.ntmps8
  go_wp2
  go_loopw [3] (fun i w' => ∃ k : Nat, k ≤ vs.length ∧ i = .int .i64 k ∧ (vs.take k).all validV = true ∧ Below w.heap.size w w' ∧ w'.cell? ⟨w.heap.size, 0, none⟩ = some (.int .i64 T) ∧ w'.cell? ⟨w.heap.size, 1, none⟩ = some (.slice av vs.length cv)) (fun i _ => vs.length - (intOf i).toNat)
  case atStart => exact ⟨0, Nat.zero_le _, rfl, rfl, bel1 _ _, by simp, by simp⟩
  case round =>
    obtain ⟨k, hk, rfl, hall, hb, c0, c1⟩ := hrel
    have HB : Hid (Below w.heap.size w wr) := hb
    have HA : Hid ((vs.take k).all validV = true) := hall
    have hsz := hb.size
    clear hb hall
    by_cases hlt : k < vs.length
    · obtain ⟨b, off, rfl, e1, e2, e3⟩ := HL.out k hlt
      replace e1 := cell_later HB.out e1
      replace e2 := cell_later HB.out e2
      replace e3 := cell_later HB.out e3
      have hki : (k : Int) < (vs.length : Int) := by omega
      have hgv := HG.out _ (List.getElem_mem hlt)
      have hgs := hgv
      have HT := take_all validV vs k hlt
      have HF := all_false validV vs k hlt
      have HT' : Hid _ := HT
      have HF' : Hid (validV vs[k] = false → vs.all validV = false) := HF
      clear HT HF
      go_wp2_with fail
      refine (refValidV vs[k] wr hgs).mono ?_
      rintro e w2 ⟨rfl, hb2⟩
      have d0 := cell_later hb2 c0
      have d1 := cell_later hb2 c1
      have HB2 : Hid (Below w.heap.size w w2) := HB.out.trans (hb2.mono hsz)
      clear hb2
      cases hv : validV vs[k] with
      | true =>
        rw [hv, HA.out] at HT'
        go_wp2
        go_roundw
        case rel => exact ⟨k + 1, by omega, by go_num, HT'.out, HB2.out, d0, d1⟩
        case measure => simp [intOf]; omega
      | false =>
        have HF2 : Hid (vs.all validV = false) := HF'.out hv
        go_wp2
        go_ret
        exact ⟨ret_bool (by rw [HR.out, HF2.out]; rfl), HB2.out⟩
    · obtain rfl : k = vs.length := by omega
      have HA' : Hid (vs.all validV = true) := by have := HA.out; rw [List.take_of_length_le (Nat.le_refl _)] at this; exact this
      clear HA
      by_cases t1 : 0 ≤ T
      · by_cases t2 : T ≤ 1099511627776
        · go_wp2
          go_ret
          exact ⟨ret_bool (by rw [HR.out, HA'.out]; simp [t1, t2]; omega), HB.out⟩
        · have t2' : decide (T ≤ 1099511627776) = false := decide_eq_false t2
          go_wp2
          go_ret
          exact ⟨ret_bool (by rw [HR.out, HA'.out, show decide (T ≤ 1099511627776) = false from decide_eq_false (by omega)]; simp), HB.out⟩
      · have t1' : decide (0 ≤ T) = false := decide_eq_false t1
        go_wp2
        go_ret
        exact ⟨ret_bool (by rw [HR.out, HA'.out, show decide (0 ≤ T) = false from decide_eq_false (by omega)]; simp), HB.out⟩

end Go.Proofs.YtodkekmfadfjkaaGreatDoor
