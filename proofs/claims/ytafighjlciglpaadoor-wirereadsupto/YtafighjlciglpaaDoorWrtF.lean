import Derived.Test.YtafighjlciglpaaDoorWrtE
namespace Go.Proofs.YtafighjlciglpaaDoor
open Go.RowKit
set_option linter.unusedVariables false
set_option maxRecDepth 100000

/-- Is a value one? -/
def validV (v : V) : Bool :=
  if v.k = 0 then decide (v.n = 0) && decide (v.s.size = 0)
  else if v.k = 1 then decide (v.s.size = 0)
  else if v.k = 2 then decide (v.s.size = 0) && (decide (v.n = 0) || decide (v.n = 1))
  else if v.k = 3 then decide (v.n = 0) && decide (v.s.size ≤ 60)
  else false

theorem isE (s : ByteArray) : s.toList.isEmpty = decide (s.size = 0) := by
  rw [ByteArray.toList_eq]
  have h : s.data.toList.length = s.size := by simp
  cases hl : s.data.toList with
  | nil => rw [hl] at h; have h' : s.size = 0 := h.symm; rw [h']; rfl
  | cons a r => rw [hl] at h; have h' : s.size = r.length + 1 := h.symm; rw [h']; rfl

set_option maxHeartbeats 2000000 in
theorem refValid_any (x : V) (w : World) (hs : x.s.size ≤ maxLen) :
    Calls Tryd.prog 33 #[.agg #[.int .i64 x.k, .int .i64 x.n, .string x.s]] w fun e w' => e = .returned (.bool (validV x)) ∧ Below w.heap.size w w' := by
  unfold maxLen at hs
  obtain ⟨k, n, s⟩ := x
  simp only at hs
  show Calls Tryd.prog 33 #[.agg #[.int .i64 k, .int .i64 n, .string s]] w fun e w' => e = .returned (.bool (validV ⟨k, n, s⟩)) ∧ Below w.heap.size w w'
  have HS : Hid (s.toList.isEmpty = decide (s.size = 0)) := isE s
  have HV : Hid (validV ⟨k, n, s⟩ = (if k = 0 then decide (n = 0) && decide (s.size = 0)
    else if k = 1 then decide (s.size = 0)
    else if k = 2 then decide (s.size = 0) && (decide (n = 0) || decide (n = 1))
    else if k = 3 then decide (n = 0) && decide (s.size ≤ 60)
    else false)) := rfl
  by_cases h0 : k = 0
  · subst h0
    by_cases hn : n = 0
    · subst hn
      go_enter Tryd.func33, Tryd.ntmps33
      go_wp2
      go_ret
      exact ⟨ret_bool (by rw [HV.out, HS.out]; simp), bel1 _ _⟩
    · have hn' : (n == 0) = false := by simpa using hn
      go_enter Tryd.func33, Tryd.ntmps33
      go_wp2
      go_ret
      exact ⟨ret_bool (by rw [HV.out]; simp [hn]), bel1 _ _⟩
  · by_cases h1 : k = 1
    · subst h1
      go_enter Tryd.func33, Tryd.ntmps33
      go_wp2
      go_ret
      exact ⟨ret_bool (by rw [HV.out, HS.out]; simp), bel1 _ _⟩
    · by_cases h2 : k = 2
      · subst h2
        cases he : s.toList.isEmpty with
        | false =>
          rw [he] at HS
          go_enter Tryd.func33, Tryd.ntmps33
          go_wp2
          go_ret
          exact ⟨ret_bool (by rw [HV.out, ← HS.out]; simp), bel1 _ _⟩
        | true =>
          rw [he] at HS
          by_cases hn : n = 0
          · subst hn
            go_enter Tryd.func33, Tryd.ntmps33
            go_wp2
            go_ret
            exact ⟨ret_bool (by rw [HV.out, ← HS.out]; simp), bel1 _ _⟩
          · have hn' : (n == 0) = false := by simpa using hn
            go_enter Tryd.func33, Tryd.ntmps33
            go_wp2
            go_ret
            exact ⟨ret_bool (by rw [HV.out, ← HS.out]; simp [hn]; rfl), bel1 _ _⟩
      · by_cases h3 : k = 3
        · subst h3
          by_cases hn : n = 0
          · subst hn
            go_enter Tryd.func33, Tryd.ntmps33
            go_wp2
            go_ret
            exact ⟨ret_bool (by rw [HV.out]; simp; omega), bel1 _ _⟩
          · have hn' : (n == 0) = false := by simpa using hn
            go_enter Tryd.func33, Tryd.ntmps33
            go_wp2
            go_ret
            exact ⟨ret_bool (by rw [HV.out]; simp [hn]), bel1 _ _⟩
        · go_enter Tryd.func33, Tryd.ntmps33
          go_wp2
          go_ret
          exact ⟨ret_bool (by rw [HV.out]; simp [h0, h1, h2, h3]), bel1 _ _⟩

/-- Is a row one? -/
def validR (r : Rw) : Bool := r.vs.all validV && (decide (0 ≤ r.t) && decide (r.t ≤ 1099511627776) && decide (r.vs.length ≤ 8))

theorem take_all {α : Type} (p : α → Bool) (l : List α) (k : Nat) (hk : k < l.length) : (l.take (k + 1)).all p = ((l.take k).all p && p l[k]) := by
  rw [List.take_succ_eq_append_getElem hk, List.all_append]; simp
theorem all_false {α : Type} (p : α → Bool) (l : List α) (k : Nat) (hk : k < l.length) (h : p l[k] = false) : l.all p = false := by
  rw [List.all_eq_false]
  exact ⟨l[k], List.getElem_mem hk, by rw [h]; decide⟩

set_option maxHeartbeats 2000000 in
theorem refValidRow_any (r : Rw) (av : Option Addr) (cv : Nat) (w : World) (hl : VLies w av r.vs) (hg : GoodR r) :
    Calls Tryd.prog 19 #[.agg #[.int .i64 r.t, .slice av r.vs.length cv]] w fun e w' => e = .returned (.bool (validR r)) ∧ Below w.heap.size w w' := by
  have HL : Hid (VLies w av r.vs) := hl
  have HG : Hid (∀ v ∈ r.vs, GoodV v) := hg.2.2.2
  have hvl := hg.2.2.1
  have HR : Hid (validR r = (r.vs.all validV && (decide (0 ≤ r.t) && decide (r.t ≤ 1099511627776) && decide (r.vs.length ≤ 8)))) := rfl
  clear hl hg
  generalize r.vs = vs at *
  generalize r.t = T at *
  go_enter Tryd.func19, Tryd.ntmps19
  go_wp2
  go_loopw [3] (fun i w' => ∃ k : Nat, k ≤ vs.length ∧ i = .int .i64 k ∧ (vs.take k).all validV = true ∧ Below w.heap.size w w' ∧ w'.cell? ⟨w.heap.size, 0, none⟩ = some (.int .i64 T) ∧ w'.cell? ⟨w.heap.size, 1, none⟩ = some (.slice av vs.length cv)) (fun i _ => vs.length - (intOf i).toNat)
  case atStart => exact ⟨0, Nat.zero_le _, rfl, rfl, bel1 _ _, by simp, by simp⟩
  case round =>
    obtain ⟨k, hk, rfl, hall, hb, c0, c1⟩ := hrel
    have HB : Hid (Below w.heap.size w wr) := hb
    have HA : Hid ((vs.take k).all validV = true) := hall
    have hsz := hb.size
    clear hb hall
    by_cases hlt : k < vs.length
    · obtain ⟨b, off, rfl, e1, e2, e3⟩ := HL.out k hlt
      replace e1 := cell_later HB.out e1
      replace e2 := cell_later HB.out e2
      replace e3 := cell_later HB.out e3
      have hki : (k : Int) < (vs.length : Int) := by omega
      have hgv := HG.out _ (List.getElem_mem hlt)
      have hgs := hgv.2.2
      have HT := take_all validV vs k hlt
      have HF := all_false validV vs k hlt
      have HT' : Hid _ := HT
      have HF' : Hid (validV vs[k] = false → vs.all validV = false) := HF
      clear HT HF hgv
      go_wp2_with fail
      refine (refValid_any vs[k] wr (by unfold maxLen; omega)).mono ?_
      rintro e w2 ⟨rfl, hb2⟩
      have d0 := cell_later hb2 c0
      have d1 := cell_later hb2 c1
      have HB2 : Hid (Below w.heap.size w w2) := HB.out.trans (hb2.mono hsz)
      clear hb2
      cases hv : validV vs[k] with
      | true =>
        rw [hv, HA.out] at HT'
        go_wp2
        go_roundw
        case rel => exact ⟨k + 1, by omega, by go_num, HT'.out, HB2.out, d0, d1⟩
        case measure => simp [intOf]; omega
      | false =>
        have HF2 : Hid (vs.all validV = false) := HF'.out hv
        go_wp2
        go_ret
        exact ⟨ret_bool (by rw [HR.out, HF2.out]; rfl), HB2.out⟩
    · obtain rfl : k = vs.length := by omega
      have HA' : Hid (vs.all validV = true) := by have := HA.out; rw [List.take_of_length_le (Nat.le_refl _)] at this; exact this
      clear HA
      by_cases t1 : 0 ≤ T
      · by_cases t2 : T ≤ 1099511627776
        · go_wp2
          go_ret
          exact ⟨ret_bool (by rw [HR.out, HA'.out]; simp [t1, t2]; omega), HB.out⟩
        · have t2' : decide (T ≤ 1099511627776) = false := decide_eq_false t2
          go_wp2
          go_ret
          exact ⟨ret_bool (by rw [HR.out, HA'.out, show decide (T ≤ 1099511627776) = false from decide_eq_false (by omega)]; simp), HB.out⟩
      · have t1' : decide (0 ≤ T) = false := decide_eq_false t1
        go_wp2
        go_ret
        exact ⟨ret_bool (by rw [HR.out, HA'.out, show decide (0 ≤ T) = false from decide_eq_false (by omega)]; simp), HB.out⟩

set_option maxHeartbeats 2000000 in
theorem valid_any (rs : List Rw) (a : Option Addr) (cap : Nat) (w : World) (hl : RLies w a rs) (hg : ∀ r ∈ rs, GoodR r) (hr : rs.length ≤ 549755813888) :
    Calls Tryd.prog 14 #[.slice a rs.length cap] w fun e w' => e = .returned (.bool (rs.all validR)) ∧ Below w.heap.size w w' := by
  have HL : Hid (RLies w a rs) := hl
  have HG : Hid (∀ r ∈ rs, GoodR r) := hg
  clear hl hg
  go_enter Tryd.func14, Tryd.ntmps14
  go_wp2
  go_loopw [3] (fun i w' => ∃ k : Nat, k ≤ rs.length ∧ i = .int .i64 k ∧ (rs.take k).all validR = true ∧ Below w.heap.size w w') (fun i _ => rs.length - (intOf i).toNat)
  case atStart => exact ⟨0, Nat.zero_le _, rfl, rfl, Below.refl _ _⟩
  case round =>
    obtain ⟨k, hk, rfl, hall, hb⟩ := hrel
    have HB : Hid (Below w.heap.size w wr) := hb
    have HA : Hid ((rs.take k).all validR = true) := hall
    have hsz := hb.size
    clear hb hall
    by_cases hlt : k < rs.length
    · obtain ⟨b, off, av, cv, rfl, e1, e2, e3⟩ := HL.out k hlt
      replace e1 := cell_later HB.out e1
      replace e2 := cell_later HB.out e2
      have E3 : Hid (VLies wr av rs[k].vs) := e3.later HB.out
      have hki : (k : Int) < (rs.length : Int) := by omega
      have HGK : Hid (GoodR rs[k]) := HG.out _ (List.getElem_mem hlt)
      have HT' : Hid _ := take_all validR rs k hlt
      have HF' : Hid (validR rs[k] = false → rs.all validR = false) := all_false validR rs k hlt
      clear e3
      go_wp2_with fail
      refine (refValidRow_any rs[k] av cv wr E3.out HGK.out).mono ?_
      rintro e w2 ⟨rfl, hb2⟩
      have HB2 : Hid (Below w.heap.size w w2) := HB.out.trans (hb2.mono hsz)
      clear hb2
      cases hv : validR rs[k] with
      | true =>
        rw [hv, HA.out] at HT'
        go_wp2
        go_roundw
        case rel => exact ⟨k + 1, by omega, by go_num, HT'.out, HB2.out⟩
        case measure => simp [intOf]; omega
      | false =>
        have HF2 : Hid (rs.all validR = false) := HF'.out hv
        go_wp2
        go_ret
        exact ⟨ret_bool (by rw [HF2.out]), HB2.out⟩
    · obtain rfl : k = rs.length := by omega
      have HA' : Hid (rs.all validR = true) := by have := HA.out; rw [List.take_of_length_le (Nat.le_refl _)] at this; exact this
      clear HA
      go_wp2
      go_ret
      exact ⟨ret_bool (by rw [HA'.out]), HB.out⟩
end Go.Proofs.YtafighjlciglpaaDoor
