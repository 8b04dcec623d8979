import Derived.Test.YtobhccmnlmlapaaGreatDoorGh
namespace Go.Proofs.YtobhccmnlmlapaaGreatDoor.Wr
open Go.RowKit
set_option linter.unusedVariables false
set_option maxRecDepth 100000

theorem OL.grown {w w' : World} {B : Nat} {v : Value} {l : List UInt8} {r : Option Nat} (h : OL w B v l) (hg : w.grownBy w' r) (hne : ∀ g, v.ownBlock = some g → some g ≠ r) : OL w' B v l := by
  refine ⟨h.1, ?_⟩
  rcases h.2 with h2 | ⟨g, cap, cur, h1, h2, h3, h4⟩
  · exact .inl h2
  · refine .inr ⟨g, cap, cur, h1, h2, ?_, h4⟩
    have hlt : g < w.heap.size := by
      rcases Nat.lt_or_ge g w.heap.size with h | h
      · exact h
      · rw [Array.getElem?_eq_none h] at h3; cases h3
    rw [hg.block g hlt (hne g (by rw [h1]; rfl))]; exact h3

/-- 'append(b, more...)': both rows are one's own. -/
theorem wpList_append_ol {w : World} {ops : Array Oper} {rest : List Oper} {o : Oper} {a : Act} {Q : Exit → Act → World → Prop} (hgd : o.guard = none) (s x : Operand)
    (ho : o.op = .call { callee := .builtin .append, args := #[s, x], argTypes := #[39, 39] })
    (B : Nat) (v : Value) (l : List UInt8) (hs : a.eval s = v) (hown : OL w B v l) (B2 : Nat) (v2 : Value) (E : List UInt8) (hx : a.eval x = v2) (h2 : OL w B2 v2 E) (hE : 0 < E.length)
    (hlen : l.length + E.length ≤ 140737488355328) (hbase : B ≤ w.heap.size)
    (h : ∀ v' w', OL w' B v' (l ++ E) → w.grownBy w' v.ownBlock → (v'.ownBlock = v.ownBlock ∨ v'.ownBlock = some w.heap.size) → wpList Tryz.prog ops Q rest (a.put o.dst v') w') : wpList Tryz.prog ops Q (o :: rest) a w := by
  obtain ⟨i0, hi0, hz0, hz1, hz2⟩ := info_parts info5
  obtain ⟨g5, cap5, hv2, hg5, hlt5⟩ := World.ownsRow.form h2 hE
  rw [hv2] at hx h2
  refine wpList_append_own_at _ hgd s x 39 ho B 5 i0 (.int .u8 0) 1 1 Tryz.underlying39 hi0 hz0 hz1 hz2 rfl (by decide) v l.length (l.map u8v) hs hown ⟨g5, 0, none⟩ E.length cap5 (E.map u8v) hx (by simp) ?_ ?_ (by unfold maxLen; omega) (by omega) hbase ?_
  · intro j u hj
    have hj' : j < E.length * 1 := by
      have := (List.getElem?_eq_some_iff.1 hj).1
      rw [List.length_map] at this
      omega
    rw [WideShapes.add_plain, Nat.zero_add, World.ownsRow.cellAt h2 j hj']
    exact hj
  · intro u hu; obtain ⟨z, _, rfl⟩ := List.mem_map.1 hu; rfl
  · intro v' w' h3 h4 _ h5
    refine h v' w' ?_ h4 h5
    unfold OL
    rw [List.length_append, List.map_append]
    exact h3

theorem encVal_pos (x : V) : 0 < (encVal x).length := by unfold encVal; simp

end Go.Proofs.YtobhccmnlmlapaaGreatDoor.Wr
namespace Go.Proofs.YtobhccmnlmlapaaGreatDoor.Wr
open Go.RowKit
set_option linter.unusedVariables false
set_option maxRecDepth 100000

/-- Is a value one? -/
def validV (v : V) : Bool :=
  if v.k = 0 then decide (v.n = 0) && decide (v.s.size = 0)
  else if v.k = 1 then decide (v.s.size = 0)
  else if v.k = 2 then decide (v.s.size = 0) && (decide (v.n = 0) || decide (v.n = 1))
  else if v.k = 3 then decide (v.n = 0) && decide (v.s.size ≤ 60)
  else false

theorem isE (s : ByteArray) : s.toList.isEmpty = decide (s.size = 0) := by
  rw [ByteArray.toList_eq]
  have h : s.data.toList.length = s.size := by simp
  cases hl : s.data.toList with
  | nil => rw [hl] at h; have h' : s.size = 0 := h.symm; rw [h']; rfl
  | cons a r => rw [hl] at h; have h' : s.size = r.length + 1 := h.symm; rw [h']; rfl

set_option maxHeartbeats 2000000 in
theorem refValid_any (x : V) (w : World) (hs : x.s.size ≤ maxLen) :
    Calls Tryz.prog 89 #[.agg #[.int .i64 x.k, .int .i64 x.n, .string x.s]] w fun e w' => e = .returned (.bool (validV x)) ∧ Below w.heap.size w w' := by
  unfold maxLen at hs
  obtain ⟨k, n, s⟩ := x
  simp only at hs
  show Calls Tryz.prog 89 #[.agg #[.int .i64 k, .int .i64 n, .string s]] w fun e w' => e = .returned (.bool (validV ⟨k, n, s⟩)) ∧ Below w.heap.size w w'
  have HS : Hid (s.toList.isEmpty = decide (s.size = 0)) := isE s
  have HV : Hid (validV ⟨k, n, s⟩ = (if k = 0 then decide (n = 0) && decide (s.size = 0)
    else if k = 1 then decide (s.size = 0)
    else if k = 2 then decide (s.size = 0) && (decide (n = 0) || decide (n = 1))
    else if k = 3 then decide (n = 0) && decide (s.size ≤ 60)
    else false)) := rfl
  by_cases h0 : k = 0
  · subst h0
    by_cases hn : n = 0
    · subst hn
      go_enter Tryz.func89, Tryz.ntmps89
      go_wp2
      go_ret
      exact ⟨ret_bool (by rw [HV.out, HS.out]; simp), bel1 _ _⟩
    · have hn' : (n == 0) = false := by simpa using hn
      go_enter Tryz.func89, Tryz.ntmps89
      go_wp2
      go_ret
      exact ⟨ret_bool (by rw [HV.out]; simp [hn]), bel1 _ _⟩
  · by_cases h1 : k = 1
    · subst h1
      go_enter Tryz.func89, Tryz.ntmps89
      go_wp2
      go_ret
      exact ⟨ret_bool (by rw [HV.out, HS.out]; simp), bel1 _ _⟩
    · by_cases h2 : k = 2
      · subst h2
        cases he : s.toList.isEmpty with
        | false =>
          rw [he] at HS
          go_enter Tryz.func89, Tryz.ntmps89
          go_wp2
          go_ret
          exact ⟨ret_bool (by rw [HV.out, ← HS.out]; simp), bel1 _ _⟩
        | true =>
          rw [he] at HS
          by_cases hn : n = 0
          · subst hn
            go_enter Tryz.func89, Tryz.ntmps89
            go_wp2
            go_ret
            exact ⟨ret_bool (by rw [HV.out, ← HS.out]; simp), bel1 _ _⟩
          · have hn' : (n == 0) = false := by simpa using hn
            go_enter Tryz.func89, Tryz.ntmps89
            go_wp2
            go_ret
            exact ⟨ret_bool (by rw [HV.out, ← HS.out]; simp [hn]; rfl), bel1 _ _⟩
      · by_cases h3 : k = 3
        · subst h3
          by_cases hn : n = 0
          · subst hn
            go_enter Tryz.func89, Tryz.ntmps89
            go_wp2
            go_ret
            exact ⟨ret_bool (by rw [HV.out]; simp; omega), bel1 _ _⟩
          · have hn' : (n == 0) = false := by simpa using hn
            go_enter Tryz.func89, Tryz.ntmps89
            go_wp2
            go_ret
            exact ⟨ret_bool (by rw [HV.out]; simp [hn]), bel1 _ _⟩
        · go_enter Tryz.func89, Tryz.ntmps89
          go_wp2
          go_ret
          exact ⟨ret_bool (by rw [HV.out]; simp [h0, h1, h2, h3]), bel1 _ _⟩

/-- Is a row one? -/
def validR (r : Rw) : Bool := r.vs.all validV && (decide (0 ≤ r.t) && decide (r.t ≤ 1099511627776) && decide (r.vs.length ≤ 8))

theorem take_all {α : Type} (p : α → Bool) (l : List α) (k : Nat) (hk : k < l.length) : (l.take (k + 1)).all p = ((l.take k).all p && p l[k]) := by
  rw [List.take_succ_eq_append_getElem hk, List.all_append]; simp
theorem all_false {α : Type} (p : α → Bool) (l : List α) (k : Nat) (hk : k < l.length) (h : p l[k] = false) : l.all p = false := by
  rw [List.all_eq_false]
  exact ⟨l[k], List.getElem_mem hk, by rw [h]; decide⟩

set_option maxHeartbeats 2000000 in
theorem refValidRow_any (r : Rw) (av : Option Addr) (cv : Nat) (w : World) (hl : VLies w av r.vs) (hg : GoodR r) :
    Calls Tryz.prog 60 #[.agg #[.int .i64 r.t, .slice av r.vs.length cv]] w fun e w' => e = .returned (.bool (validR r)) ∧ Below w.heap.size w w' := by
  have HL : Hid (VLies w av r.vs) := hl
  have HG : Hid (∀ v ∈ r.vs, GoodV v) := hg.2.2.2
  have hvl := hg.2.2.1
  have HR : Hid (validR r = (r.vs.all validV && (decide (0 ≤ r.t) && decide (r.t ≤ 1099511627776) && decide (r.vs.length ≤ 8)))) := rfl
  clear hl hg
  generalize r.vs = vs at *
  generalize r.t = T at *
  go_enter Tryz.func60, Tryz.ntmps60
  go_wp2
  go_loopw [3] (fun i w' => ∃ k : Nat, k ≤ vs.length ∧ i = .int .i64 k ∧ (vs.take k).all validV = true ∧ Below w.heap.size w w' ∧ w'.cell? ⟨w.heap.size, 0, none⟩ = some (.int .i64 T) ∧ w'.cell? ⟨w.heap.size, 1, none⟩ = some (.slice av vs.length cv)) (fun i _ => vs.length - (intOf i).toNat)
  case atStart => exact ⟨0, Nat.zero_le _, rfl, rfl, bel1 _ _, by simp, by simp⟩
  case round =>
    obtain ⟨k, hk, rfl, hall, hb, c0, c1⟩ := hrel
    have HB : Hid (Below w.heap.size w wr) := hb
    have HA : Hid ((vs.take k).all validV = true) := hall
    have hsz := hb.size
    clear hb hall
    by_cases hlt : k < vs.length
    · obtain ⟨b, off, rfl, e1, e2, e3⟩ := HL.out k hlt
      replace e1 := cell_later HB.out e1
      replace e2 := cell_later HB.out e2
      replace e3 := cell_later HB.out e3
      have hki : (k : Int) < (vs.length : Int) := by omega
      have hgv := HG.out _ (List.getElem_mem hlt)
      have hgs := hgv.2.2
      have HT := take_all validV vs k hlt
      have HF := all_false validV vs k hlt
      have HT' : Hid _ := HT
      have HF' : Hid (validV vs[k] = false → vs.all validV = false) := HF
      clear HT HF hgv
      go_wp2_with fail
      refine (refValid_any vs[k] wr (by unfold maxLen; omega)).mono ?_
      rintro e w2 ⟨rfl, hb2⟩
      have d0 := cell_later hb2 c0
      have d1 := cell_later hb2 c1
      have HB2 : Hid (Below w.heap.size w w2) := HB.out.trans (hb2.mono hsz)
      clear hb2
      cases hv : validV vs[k] with
      | true =>
        rw [hv, HA.out] at HT'
        go_wp2
        go_roundw
        case rel => exact ⟨k + 1, by omega, by go_num, HT'.out, HB2.out, d0, d1⟩
        case measure => simp [intOf]; omega
      | false =>
        have HF2 : Hid (vs.all validV = false) := HF'.out hv
        go_wp2
        go_ret
        exact ⟨ret_bool (by rw [HR.out, HF2.out]; rfl), HB2.out⟩
    · obtain rfl : k = vs.length := by omega
      have HA' : Hid (vs.all validV = true) := by have := HA.out; rw [List.take_of_length_le (Nat.le_refl _)] at this; exact this
      clear HA
      by_cases t1 : 0 ≤ T
      · by_cases t2 : T ≤ 1099511627776
        · go_wp2
          go_ret
          exact ⟨ret_bool (by rw [HR.out, HA'.out]; simp [t1, t2]; omega), HB.out⟩
        · have t2' : decide (T ≤ 1099511627776) = false := decide_eq_false t2
          go_wp2
          go_ret
          exact ⟨ret_bool (by rw [HR.out, HA'.out, show decide (T ≤ 1099511627776) = false from decide_eq_false (by omega)]; simp), HB.out⟩
      · have t1' : decide (0 ≤ T) = false := decide_eq_false t1
        go_wp2
        go_ret
        exact ⟨ret_bool (by rw [HR.out, HA'.out, show decide (0 ≤ T) = false from decide_eq_false (by omega)]; simp), HB.out⟩

end Go.Proofs.YtobhccmnlmlapaaGreatDoor.Wr
namespace Go.Proofs.YtobhccmnlmlapaaGreatDoor.Wr
open Go.RowKit
set_option linter.unusedVariables false
set_option maxRecDepth 100000

def blist (f : Nat → UInt8) (n : Nat) : List UInt8 := (List.range n).map f
def lstr (l : List UInt8) : ByteArray := ⟨l.toArray⟩
theorem blist_len (f : Nat → UInt8) (n : Nat) : (blist f n).length = n := by simp [blist]
theorem lstr_size (l : List UInt8) : (lstr l).size = l.length := by simp [lstr, ByteArray.size]
theorem bstr_blist (f : Nat → UInt8) (n : Nat) : bstr f n = lstr (blist f n) := rfl
theorem lstr_append (l m : List UInt8) : lstr l ++ lstr m = lstr (l ++ m) := by
  apply ByteArray.ext
  simp [lstr]
/-- The bytes of a list, by place. -/
def lat (l : List UInt8) : Nat → UInt8 := fun i => l.getD i 0
theorem blist_lat (l : List UInt8) : blist (lat l) l.length = l := by
  apply List.ext_getElem?
  intro i
  by_cases hi : i < l.length
  · simp [blist, lat, hi]
  · simp [blist, hi]
theorem bstr_lat (l : List UInt8) : bstr (lat l) l.length = lstr l := by rw [bstr_blist, blist_lat]
theorem bstr_left (f : Nat → UInt8) (n : Nat) (m : List UInt8) : bstr (lat (blist f n ++ m)) n = bstr f n := by
  rw [bstr_eq]
  intro i hi
  have h : i < (blist f n).length := by rw [blist_len]; exact hi
  simp [lat, List.getElem?_append_left h]
  simp [blist, hi]
theorem bstr_right (l m : List UInt8) : bstr (fun i => lat (l ++ m) (l.length + i)) m.length = lstr m := by
  rw [← bstr_lat m, bstr_eq]
  intro i hi
  simp [lat, List.getElem?_append_right]

theorem OL.form {w : World} {B : Nat} {v : Value} {l : List UInt8} (h : OL w B v l) : (v = .slice none 0 0 ∧ l = []) ∨ ∃ g c, v = .slice (some ⟨g, 0, none⟩) l.length c ∧ l.length ≤ c ∧ c ≤ maxLen := by
  rcases h.2 with ⟨h1, h2⟩ | ⟨g, c, _, h1, _, _, h3, h4, _⟩
  · exact .inl ⟨h1, List.eq_nil_of_length_eq_zero h2⟩
  · exact .inr ⟨g, c, h1, h3, h4⟩
theorem OL.bytes {w : World} {B : Nat} {a : Option Addr} {n c : Nat} {l : List UInt8} (h : OL w B (.slice a n c) l) : n = l.length ∧ Bytes w a l.length (lat l) := by
  rcases h.form with ⟨h1, rfl⟩ | ⟨g, c', h1, -, -⟩
  · simp at h1; exact ⟨by simp [h1], fun i hi => absurd hi (by simp)⟩
  · simp only [Value.slice.injEq] at h1
    obtain ⟨rfl, rfl, rfl⟩ := h1
    refine ⟨rfl, bytes_of_own (B := B) (cap := c) ?_⟩
    have e : ((List.range l.length).map fun i => u8v (lat l i)) = l.map u8v := by
      conv => rhs; rw [← blist_lat l]
      simp [blist]
    rw [e]; exact h
theorem OL.conv {w : World} {B : Nat} {v : Value} {l : List UInt8} (h : OL w B v l) : ∃ a c, v = .slice a l.length c ∧ Bytes w a l.length (lat l) ∧ l.length ≤ c ∧ c ≤ maxLen := by
  rcases h.form with ⟨rfl, rfl⟩ | ⟨g, c', rfl, h1, h2⟩
  · exact ⟨none, 0, rfl, fun i hi => absurd hi (by simp), by simp, by decide⟩
  · exact ⟨_, _, rfl, h.bytes.2, h1, h2⟩

end Go.Proofs.YtobhccmnlmlapaaGreatDoor.Wr
