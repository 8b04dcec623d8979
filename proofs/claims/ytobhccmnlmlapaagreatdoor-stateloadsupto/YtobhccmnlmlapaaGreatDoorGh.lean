import Derived.Test.YtobhccmnlmlapaaGreatDoorGg
import Derived.Test.YtobhccmnlmlapaaGreatDoorGb
import Derived.Deep.RegionHeld3
import Derived.Deep.Onto
namespace Go.Proofs.YtobhccmnlmlapaaGreatDoor.Wr
open Go.RowKit Go.Lib
set_option linter.unusedVariables false
set_option maxRecDepth 100000

def kb (k : Int) : UInt8 := UInt8.ofNat (k % 256).toNat
def encTail (v : V) : List UInt8 := if v.k = 1 ∨ v.k = 2 then encInt v.n else if v.k = 3 then encInt (v.s.size : Int) ++ v.s.data.toList else []
def encVal (v : V) : List UInt8 := kb v.k :: encTail v
theorem u8v_kb (k : Int) : u8v (kb k) = .int .u8 (k % 256) := by
  unfold kb; rw [u8v_ofNat _ (by omega)]; congr 1; omega
theorem strCells_eq (s : ByteArray) : strCells s = s.data.toList.map u8v := by
  rfl

theorem putCount_any (v : Value) (n : Nat) (l : List UInt8) (x : Int) (B : Nat) (w : World) (hown : w.ownsRow B 5 1 v n (l.map u8v)) (hB : B ≤ w.heap.size) (h1 : -9223372036854775808 ≤ x) (h2 : x ≤ 9223372036854775807) (hn : n ≤ 1099511627776) :
    Calls Tryz.prog 131 #[v, .int .i64 x] w fun e w' => ∃ v', e = .returned v' ∧ w'.ownsRow B 5 1 v' (n + (encInt x).length) ((l ++ encInt x).map u8v) ∧ Only w w' v.ownBlock v'.ownBlock := by
  have HO : Hid (w.ownsRow B 5 1 v n (l.map u8v)) := hown
  clear hown
  go_enter Tryz.func131, Tryz.ntmps131
  go_wp2_with fail
  refine (putInt_any v n l x B w HO.out hB h1 h2 hn).mono ?_
  rintro e w1 ⟨v', rfl, ho, hon⟩
  have H1 : Hid (w1.ownsRow B 5 1 v' (n + (encInt x).length) ((l ++ encInt x).map u8v)) := ho
  have H2 : Hid (Only w w1 v.ownBlock v'.ownBlock) := hon
  clear ho hon HO
  go_wp2
  go_ret
  exact ⟨v', rfl, H1.out, H2.out⟩

set_option maxHeartbeats 1000000 in
theorem refText_any (s : ByteArray) (w : World) (hs : s.size ≤ 1099511627776) :
    Calls Tryz.prog 66 #[.string s] w fun e w' => ∃ v', e = .returned v' ∧ w'.ownsRow w.heap.size 5 1 v' ((encInt (s.size : Int)).length + s.size) ((encInt (s.size : Int) ++ s.data.toList).map u8v) ∧ Below w.heap.size w w' := by
  obtain ⟨i0, hi0, hz0, hz1, hz2⟩ := info_parts info5
  have h10 := encInt_len (s.size : Int) (by omega) (by omega)
  go_enter Tryz.func66, Tryz.ntmps66
  go_wp2_with fail
  refine (refInt_any (s.size : Int) w (by omega) (by omega)).mono ?_
  rintro e w1 ⟨v1, rfl, ho, hb⟩
  have H1 : Hid (w1.ownsRow w.heap.size 5 1 v1 (encInt (s.size : Int)).length ((encInt (s.size : Int)).map u8v)) := ho
  have H2 : Hid (Below w.heap.size w w1) := hb
  have hsz := hb.size
  clear ho hb
  go_wp2_with (first
    | (at_builtin; refine wpList_append_own_string _ rfl _ _ 39 9 rfl w.heap.size 5 i0 Tryz.underlying39 Tryz.underlying9 hi0 hz0 hz1 hz2 _ _ _ rfl H1.out s rfl ?c1 ?c2 ?c3 ?_))
  case c1 => unfold maxLen; omega
  case c2 => omega
  case c3 => omega
  · intro v2 w2 hown' hgrow _
    have hB5 : Below w.heap.size w w2 := H2.out.grown hgrow hsz (fun j hj => (H1.out.lt j hj).1)
    go_wp2
    go_ret
    refine ⟨v2, rfl, ?_, hB5⟩
    rw [List.map_append, ← strCells_eq]
    exact hown'

theorem only_ne {w w' : World} {r r' : Option Nat} {g : Nat} (h : Only w w' r r') (hg : g < w.heap.size) (hne : some g ≠ r) : some g ≠ r' := by
  rcases h.place with h1 | ⟨g', h1, h2⟩
  · rw [h1]; exact hne
  · rw [h1]; intro e; have := Option.some.inj e; omega
/-- 'append(b, s...)' at a step of a region that draws its order. -/
theorem step_append_own_string {P : Program} (w : World) {ops : Array Oper} {o : Oper} {a : Act} {K : Act → World → Prop} {Q : Exit → Act → World → Prop} {E : Prop} (hgd : o.guard = none) (sl x : Operand) (t u : TypeId)
    (ho : o.op = .call { callee := .builtin .append, args := #[sl, x], argTypes := #[t, u] })
    (base : Nat) (e : TypeId) (i : TypeInfo) (ht : P.underlying t = some (.slice e)) (hu : P.underlying u = some .string) (hi : P.info? e = some i) (hz : i.zero = some (.int .u8 0))
    (hsize : i.size = 1) (hby : i.bytes = 1)
    (v : Value) (n : Nat) (xs : List Value) (hs : a.eval sl = v) (hown : w.ownsRow base e 1 v n xs) (s : ByteArray) (hx : a.eval x = .string s)
    (h63 : n + s.size ≤ maxLen) (hbytes : n + s.size ≤ 140737488355328) (hbase : base ≤ w.heap.size)
    (h : ∀ v' w', w'.ownsRow base e 1 v' (n + s.size) (xs ++ strCells s) → w.grownBy w' v.ownBlock → (v' = .slice none 0 0 ↔ v = .slice none 0 0 ∧ s.size = 0) → K (a.put o.dst v') w') :
    if Region.wanted o (yielded ops a.tmps) = true then Oper.wp P o a w K Q else E := by
  have hw : Region.wanted o (yielded ops a.tmps) = true := by simp [Region.wanted, hgd]
  rw [if_pos hw]
  obtain ⟨v', w', hr, h2, h3, h4⟩ := run_append_own_string (P := P) w base t u o.type e i ht hu hi hz hsize hby v n xs hown s h63 hbytes hbase
  unfold Oper.wp execOp
  simp only [ho, resolve, invoke, builtin, Sem.run_bind, Sem.run_pure, Result.andThen_ok, List.map_toArray, List.map_cons, List.map_nil, hs, hx, hr]
  exact h v' w' h2 h3 h4

set_option maxHeartbeats 2000000 in
theorem putValue_any (v : Value) (n : Nat) (l : List UInt8) (x : V) (B : Nat) (w : World) (hown : w.ownsRow B 5 1 v n (l.map u8v)) (hB : B ≤ w.heap.size) (h1 : -9223372036854775808 ≤ x.n) (h2 : x.n ≤ 9223372036854775807) (hn : n ≤ 549755813888) (hs : x.s.size ≤ 549755813888) :
    Calls Tryz.prog 116 #[v, .agg #[.int .i64 x.k, .int .i64 x.n, .string x.s]] w fun e w' => ∃ v', e = .returned v' ∧ w'.ownsRow B 5 1 v' (n + (encVal x).length) ((l ++ encVal x).map u8v) ∧ Below B w w' := by
  obtain ⟨i0, hi0, hz0, hz1, hz2⟩ := info_parts info5
  have HO : Hid (w.ownsRow B 5 1 v n (l.map u8v)) := hown
  have HC : Hid (u8v (kb x.k) = .int .u8 (x.k % 256)) := u8v_kb x.k
  have HE : Hid (encVal x = kb x.k :: encTail x) := rfl
  have HT : Hid (encTail x = if x.k = 1 ∨ x.k = 2 then encInt x.n else if x.k = 3 then encInt (x.s.size : Int) ++ x.s.data.toList else []) := rfl
  clear hown
  generalize kb x.k = c at *
  go_enter Tryz.func116, Tryz.ntmps116
  go_wp2_with (first
    | (at_builtin; refine wpList_append_own_at _ rfl _ _ 39 rfl B 5 i0 (.int .u8 0) 1 1 Tryz.underlying39 hi0 hz0 hz1 hz2 rfl (by decide) _ _ _ rfl ((HO.out.alloc _).alloc _) ⟨w.heap.size + 1, 0, none⟩ 1 1 [u8v c] rfl rfl ?c1 ?c2 ?c3 ?c4 ?c5 ?_))
  case c1 =>
    intro j u hj
    match j, hj with
    | 0, hj => simp at hj; subst hj; rw [HC.out]; simp [Addr.add]
  case c2 => intro u hu; simp at hu; subst hu; rfl
  case c3 => unfold maxLen; omega
  case c4 => omega
  case c5 => simp; omega
  · intro v3 w3 hown' hgrow _ hat
    have hlt : ∀ k, v.ownBlock = some k → k < w.heap.size := fun k hk => (HO.out.lt k hk).2
    have hne : some w.heap.size ≠ v.ownBlock := fun e => by have := hlt _ e.symm; omega
    have c0 : w3.cell? ⟨w.heap.size, 0, none⟩ = some (.int .i64 x.k) := hgrow.cell (by simp) hne
    have c1 : w3.cell? ⟨w.heap.size, 1, none⟩ = some (.int .i64 x.n) := hgrow.cell (by simp) hne
    have c2 : w3.cell? ⟨w.heap.size, 2, none⟩ = some (.string x.s) := hgrow.cell (by simp) hne
    have H3 : Hid (w3.ownsRow B 5 1 v3 (n + 1) ((l ++ [c]).map u8v)) := by unfold Hid; simpa using hown'
    have hon : Only w w3 v.ownBlock v3.ownBlock := (((Only.refl _ _).alloc _).alloc _).app hgrow (by simpa using hat)
    have HB3 : Hid (Below B w w3) := hon.below HO.out hB
    have hne3 : some w.heap.size ≠ v3.ownBlock := by
      rcases hat with h | h
      · rw [h]; exact hne
      · rw [h]; simp; omega
    have hlt3 : w.heap.size < w3.heap.size := World.block_lt_of_cell? _ _ c0
    have hB3 : B ≤ w3.heap.size := Nat.le_trans hB hon.grown.size
    clear hown' hgrow hat hon HO
    by_cases hk1 : x.k = 1 ∨ x.k = 2
    · have HT' : Hid (encTail x = encInt x.n) := by rw [Hid, HT.out, if_pos hk1]
      rcases hk1 with hk | hk
      all_goals
        rw [hk] at c0
        go_wp2_with fail
        refine (putInt_any v3 (n + 1) (l ++ [c]) x.n B w3 H3.out hB3 h1 h2 (by omega)).mono ?_
        rintro e w5 ⟨v5, rfl, ho5, hon5⟩
        have H5 : Hid (w5.ownsRow B 5 1 v5 (n + 1 + (encInt x.n).length) ((l ++ [c] ++ encInt x.n).map u8v)) := ho5
        have HB5 : Hid (Below B w w5) := HB3.out.trans (hon5.below H3.out hB3)
        clear ho5 hon5
        go_wp2
        go_ret
        refine ⟨v5, rfl, ?_, HB5.out⟩
        rw [HE.out, HT'.out]
        have := H5.out
        rw [List.append_assoc] at this
        rw [List.length_cons, Nat.add_comm (encInt x.n).length 1, ← Nat.add_assoc]
        exact this
    · by_cases hk3 : x.k = 3
      · have HT' : Hid (encTail x = encInt (x.s.size : Int) ++ x.s.data.toList) := by rw [Hid, HT.out, if_neg hk1, if_pos hk3]
        have h10 := encInt_len (x.s.size : Int) (by omega) (by omega)
        rw [hk3] at c0
        go_wp2_with fail
        go_region_held3 (fun w' => w'.cell? ⟨w.heap.size, 2, none⟩ = some (.string x.s))
          (first | go_keep | exact Only.cell ‹_› ‹_› hne3 | exact World.grownBy.cell hg6 ‹_› hne5)
          (first
            | (go_at_call 131; refine (putCount_any v3 (n + 1) (l ++ [c]) (x.s.size : Int) B _ (by exact H3.out) (by exact hB3) (by omega) (by omega) (by omega)).mono ?_; rintro e w5 ⟨v5, rfl, ho5, hon5⟩; have hne5 := only_ne hon5 (by exact hlt3) hne3)
            | (refine step_append_own_string _ (by rfl) _ _ 39 9 (by rfl) B 5 i0 Tryz.underlying39 Tryz.underlying9 hi0 hz0 hz1 hz2 v5 _ _ (by rfl) (by exact ho5) x.s (by rfl) (by unfold maxLen; omega) (by omega) (by exact Nat.le_trans hB3 hon5.grown.size) ?_; intro v6 w6 ho6 hg6 _))
        have hb5 : Below B w w5 := HB3.out.drew.trans (hon5.below (by exact H3.out) (by exact hB3))
        have HB6 : Hid (Below B w w6) := hb5.grown hg6 (Nat.le_trans hB hb5.size) (fun j hj => (ho5.lt j hj).1)
        have H6 : Hid (w6.ownsRow B 5 1 v6 (n + (encVal x).length) ((l ++ encVal x).map u8v)) := by
          unfold Hid
          rw [HE.out, HT'.out]
          have e1 : (l ++ c :: (encInt (x.s.size : Int) ++ x.s.data.toList)).map u8v = (l ++ [c] ++ encInt (x.s.size : Int)).map u8v ++ strCells x.s := by rw [strCells_eq]; simp
          have e2 : n + (c :: (encInt (x.s.size : Int) ++ x.s.data.toList)).length = n + 1 + (encInt (x.s.size : Int)).length + x.s.size := by
            rw [List.length_cons, List.length_append, show x.s.data.toList.length = x.s.size by simp]; omega
          rw [e1, e2]
          exact ho6
        clear ho5 hon5 hne5 ho6 hg6 hb5
        go_wp2
        go_ret
        exact ⟨v6, rfl, H6.out, HB6.out⟩
      · have HT' : Hid (encTail x = []) := by rw [Hid, HT.out, if_neg hk1, if_neg hk3]
        have hk1' : ¬ x.k = 1 := fun h => hk1 (.inl h)
        have hk2' : ¬ x.k = 2 := fun h => hk1 (.inr h)
        go_wp2
        go_ret
        refine ⟨v3, rfl, ?_, HB3.out⟩
        rw [HE.out, HT'.out]
        exact H3.out

theorem vint_pos (u : Nat) : 0 < (vint u).length := by
  by_cases h : u < 128
  · rw [vint_lt h]; simp
  · rw [vint_ge h]; simp
theorem encInt_pos (x : Int) : 0 < (encInt x).length := vint_pos _

set_option maxHeartbeats 2000000 in
theorem refValue_any (x : V) (w : World) (h1 : -9223372036854775808 ≤ x.n) (h2 : x.n ≤ 9223372036854775807) (hs : x.s.size ≤ 549755813888) :
    Calls Tryz.prog 65 #[.agg #[.int .i64 x.k, .int .i64 x.n, .string x.s]] w fun e w' => ∃ v', e = .returned v' ∧ w'.ownsRow w.heap.size 5 1 v' (encVal x).length ((encVal x).map u8v) ∧ Below w.heap.size w w' := by
  obtain ⟨i0, hi0, hz0, hz1, hz2⟩ := info_parts info5
  have HC : Hid (u8v (kb x.k) = .int .u8 (x.k % 256)) := u8v_kb x.k
  have HE : Hid (encVal x = kb x.k :: encTail x) := rfl
  have HT : Hid (encTail x = if x.k = 1 ∨ x.k = 2 then encInt x.n else if x.k = 3 then encInt (x.s.size : Int) ++ x.s.data.toList else []) := rfl
  generalize kb x.k = c at *
  have HO : Hid (((w.alloc (.cells #[.int .i64 x.k, .int .i64 x.n, .string x.s] 48)).alloc (.cells #[.int .u8 (x.k % 256)] 5)).ownsRow w.heap.size 5 1 (.slice (some ⟨w.heap.size + 1, 0, none⟩) 1 1) 1 ([c].map u8v)) := by
    have := World.ownsRow_lit (base := w.heap.size) (e := 5) (size := 1) (w.alloc (.cells #[.int .i64 x.k, .int .i64 x.n, .string x.s] 48)) #[.int .u8 (x.k % 256)] 1 (by simp) (by unfold maxLen; omega) rfl
    unfold Hid
    simpa [HC.out] using this
  have HBB : Hid (Below w.heap.size w ((w.alloc (.cells #[.int .i64 x.k, .int .i64 x.n, .string x.s] 48)).alloc (.cells #[.int .u8 (x.k % 256)] 5))) := (bel1 w _).alloc (by simp) _
  go_enter Tryz.func65, Tryz.ntmps65
  by_cases hk1 : x.k = 1 ∨ x.k = 2
  · have HT' : Hid (encTail x = encInt x.n) := by rw [Hid, HT.out, if_pos hk1]
    have h10 := encInt_len x.n h1 h2
    rcases hk1 with hk | hk
    all_goals
      rw [hk] at HO HBB HC ⊢
      go_wp2_with fail
      refine (refInt_any x.n _ h1 h2).mono ?_
      rintro e w5 ⟨v5, rfl, ho5, hb5⟩
      obtain ⟨g5, cap5, rfl, hg5, hlt5⟩ := ho5.form (encInt_pos _)
      have H5 : Hid (w5.ownsRow 0 5 1 (.slice (some ⟨g5, 0, none⟩) ((encInt x.n).length) cap5) ((encInt x.n).length) ((encInt x.n).map u8v)) := ho5.mono (Nat.zero_le _)
      have HO5 : Hid (w5.ownsRow w.heap.size 5 1 (.slice (some ⟨w.heap.size + 1, 0, none⟩) 1 1) 1 ([c].map u8v)) := own_later HO.out hb5
      have HB5 : Hid (Below w.heap.size w w5) := HBB.out.trans (hb5.mono (by simp; omega))
      have hs5 := HB5.out.size
      clear ho5 hb5
      go_wp2_with (first
        | (at_builtin; refine wpList_append_own _ rfl _ _ 39 rfl w.heap.size 5 i0 (.int .u8 0) 1 1 Tryz.underlying39 hi0 hz0 hz1 hz2 rfl (by decide) _ _ _ rfl HO5.out ⟨g5, 0, none⟩ ((encInt x.n).length) cap5 ((encInt x.n).map u8v) rfl (by have := H5.out.1; omega) ?c1 ?c2 ?c3 ?c4 ?c5 ?_))
      case c1 =>
        intro j u hj
        have hj' : j < ((encInt x.n).length) * 1 := by
          have h := (List.getElem?_eq_some_iff.1 hj).1
          have := H5.out.1
          omega
        rw [WideShapes.add_plain, Nat.zero_add, H5.out.cellAt j hj']
        exact hj
      case c2 => intro u hu; obtain ⟨z, _, rfl⟩ := List.mem_map.1 hu; rfl
      case c3 => unfold maxLen; omega
      case c4 => omega
      case c5 => exact hs5
      · intro v6 w6 ho6 hg6 _
        have HB6 : Hid (Below w.heap.size w w6) := HB5.out.grown hg6 hs5 (fun j hj => (HO5.out.lt j hj).1)
        have H6 : Hid (w6.ownsRow w.heap.size 5 1 v6 (encVal x).length ((encVal x).map u8v)) := by
          unfold Hid
          rw [HE.out, HT'.out]
          have e2 : (c :: (encInt x.n)).length = 1 + ((encInt x.n).length) := by
            have := H5.out.1
            rw [List.length_map] at this
            rw [List.length_cons]; omega
          rw [e2]
          simpa using ho6
        clear ho6 hg6
        go_wp2
        go_ret
        exact ⟨v6, rfl, H6.out, HB6.out⟩
  · by_cases hk3 : x.k = 3
    · have HT' : Hid (encTail x = encInt (x.s.size : Int) ++ x.s.data.toList) := by rw [Hid, HT.out, if_neg hk1, if_pos hk3]
      have h10 := encInt_len (x.s.size : Int) (by omega) (by omega)
      rw [hk3] at HO HBB HC ⊢
      go_wp2_with fail
      refine (refText_any x.s _ (by omega)).mono ?_
      rintro e w5 ⟨v5, rfl, ho5, hb5⟩
      obtain ⟨g5, cap5, rfl, hg5, hlt5⟩ := ho5.form (by have := encInt_pos (x.s.size : Int); omega)
      have H5 : Hid (w5.ownsRow 0 5 1 (.slice (some ⟨g5, 0, none⟩) ((encInt (x.s.size : Int)).length + x.s.size) cap5) ((encInt (x.s.size : Int)).length + x.s.size) ((encInt (x.s.size : Int) ++ x.s.data.toList).map u8v)) := ho5.mono (Nat.zero_le _)
      have HO5 : Hid (w5.ownsRow w.heap.size 5 1 (.slice (some ⟨w.heap.size + 1, 0, none⟩) 1 1) 1 ([c].map u8v)) := own_later HO.out hb5
      have HB5 : Hid (Below w.heap.size w w5) := HBB.out.trans (hb5.mono (by simp; omega))
      have hs5 := HB5.out.size
      clear ho5 hb5
      go_wp2_with (first
        | (at_builtin; refine wpList_append_own _ rfl _ _ 39 rfl w.heap.size 5 i0 (.int .u8 0) 1 1 Tryz.underlying39 hi0 hz0 hz1 hz2 rfl (by decide) _ _ _ rfl HO5.out ⟨g5, 0, none⟩ ((encInt (x.s.size : Int)).length + x.s.size) cap5 ((encInt (x.s.size : Int) ++ x.s.data.toList).map u8v) rfl (by have := H5.out.1; omega) ?c1 ?c2 ?c3 ?c4 ?c5 ?_))
      case c1 =>
        intro j u hj
        have hj' : j < ((encInt (x.s.size : Int)).length + x.s.size) * 1 := by
          have h := (List.getElem?_eq_some_iff.1 hj).1
          have := H5.out.1
          omega
        rw [WideShapes.add_plain, Nat.zero_add, H5.out.cellAt j hj']
        exact hj
      case c2 => intro u hu; obtain ⟨z, _, rfl⟩ := List.mem_map.1 hu; rfl
      case c3 => unfold maxLen; omega
      case c4 => omega
      case c5 => exact hs5
      · intro v6 w6 ho6 hg6 _
        have HB6 : Hid (Below w.heap.size w w6) := HB5.out.grown hg6 hs5 (fun j hj => (HO5.out.lt j hj).1)
        have H6 : Hid (w6.ownsRow w.heap.size 5 1 v6 (encVal x).length ((encVal x).map u8v)) := by
          unfold Hid
          rw [HE.out, HT'.out]
          have e2 : (c :: (encInt (x.s.size : Int) ++ x.s.data.toList)).length = 1 + ((encInt (x.s.size : Int)).length + x.s.size) := by
            have := H5.out.1
            rw [List.length_map] at this
            rw [List.length_cons]; omega
          rw [e2]
          simpa using ho6
        clear ho6 hg6
        go_wp2
        go_ret
        exact ⟨v6, rfl, H6.out, HB6.out⟩
    · have HT' : Hid (encTail x = []) := by rw [Hid, HT.out, if_neg hk1, if_neg hk3]
      have hk1' : ¬ x.k = 1 := fun h => hk1 (.inl h)
      have hk2' : ¬ x.k = 2 := fun h => hk1 (.inr h)
      go_wp2_with (first
        | (at_builtin; refine wpList_append_own_none rfl _ _ 39 rfl w.heap.size 5 i0 1 Tryz.underlying39 hi0 _ _ _ rfl HO.out rfl ?_))
      go_wp2
      go_ret
      refine ⟨_, rfl, ?_, HBB.out⟩
      rw [HE.out, HT'.out]
      exact HO.out
end Go.Proofs.YtobhccmnlmlapaaGreatDoor.Wr
namespace Go.Proofs.YtobhccmnlmlapaaGreatDoor.Wr
open Go.RowKit
set_option linter.unusedVariables false
set_option maxRecDepth 100000

def encRow (r : Rw) : List UInt8 := encInt r.t ++ (encInt (r.vs.length : Int) ++ r.vs.flatMap encVal)
def encRows (rs : List Rw) : List UInt8 := encInt (rs.length : Int) ++ rs.flatMap encRow

/-- Values lie in memory where the slice 'a' begins. -/
def VLies (w : World) (a : Option Addr) (vs : List V) : Prop :=
  ∀ i (hi : i < vs.length), ∃ b off, a = some ⟨b, off, none⟩ ∧ w.cell? ⟨b, off + i * 3, none⟩ = some (.int .i64 vs[i].k) ∧ w.cell? ⟨b, off + i * 3 + 1, none⟩ = some (.int .i64 vs[i].n) ∧ w.cell? ⟨b, off + i * 3 + 2, none⟩ = some (.string vs[i].s)
theorem VLies.later {w wx : World} {a : Option Addr} {vs : List V} (h : VLies w a vs) (hb : Below w.heap.size w wx) : VLies wx a vs := fun i hi => by
  obtain ⟨b, off, e, h1, h2, h3⟩ := h i hi
  exact ⟨b, off, e, cell_later hb h1, cell_later hb h2, cell_later hb h3⟩
/-- Rows lie in memory where the slice 'a' begins. -/
def RLies (w : World) (a : Option Addr) (rs : List Rw) : Prop :=
  ∀ i (hi : i < rs.length), ∃ b off av cv, a = some ⟨b, off, none⟩ ∧ w.cell? ⟨b, off + i * 2, none⟩ = some (.int .i64 rs[i].t) ∧ w.cell? ⟨b, off + i * 2 + 1, none⟩ = some (.slice av rs[i].vs.length cv) ∧ VLies w av rs[i].vs
theorem RLies.later {w wx : World} {a : Option Addr} {rs : List Rw} (h : RLies w a rs) (hb : Below w.heap.size w wx) : RLies wx a rs := fun i hi => by
  obtain ⟨b, off, av, cv, e, h1, h2, h3⟩ := h i hi
  exact ⟨b, off, av, cv, e, cell_later hb h1, cell_later hb h2, h3.later hb⟩
def GoodV (v : V) : Prop := -9223372036854775808 ≤ v.n ∧ v.n ≤ 9223372036854775807 ∧ v.s.size ≤ 549755813888
def GoodR (r : Rw) : Prop := -9223372036854775808 ≤ r.t ∧ r.t ≤ 9223372036854775807 ∧ r.vs.length ≤ 549755813888 ∧ ∀ v ∈ r.vs, GoodV v

/-- Bytes in a row of one's own. -/
def OL (w : World) (B : Nat) (v : Value) (l : List UInt8) : Prop := w.ownsRow B 5 1 v l.length (l.map u8v)
theorem OL.later {w w' : World} {B : Nat} {v : Value} {l : List UInt8} (h : OL w B v l) (hb : Below w.heap.size w w') : OL w' B v l := own_later h hb

theorem putInt_ol (v : Value) (l : List UInt8) (x : Int) (B : Nat) (w : World) (hown : OL w B v l) (hB : B ≤ w.heap.size) (h1 : -9223372036854775808 ≤ x) (h2 : x ≤ 9223372036854775807) (hn : l.length ≤ 1099511627776) :
    Calls Tryz.prog 90 #[v, .int .i64 x] w fun e w' => ∃ v', e = .returned v' ∧ OL w' B v' (l ++ encInt x) ∧ Only w w' v.ownBlock v'.ownBlock := by
  refine (putInt_any v l.length l x B w hown hB h1 h2 hn).mono ?_
  rintro e w' ⟨v', rfl, h, k⟩
  exact ⟨v', rfl, by unfold OL; rw [List.length_append]; exact h, k⟩
theorem putCount_ol (v : Value) (l : List UInt8) (x : Int) (B : Nat) (w : World) (hown : OL w B v l) (hB : B ≤ w.heap.size) (h1 : -9223372036854775808 ≤ x) (h2 : x ≤ 9223372036854775807) (hn : l.length ≤ 1099511627776) :
    Calls Tryz.prog 131 #[v, .int .i64 x] w fun e w' => ∃ v', e = .returned v' ∧ OL w' B v' (l ++ encInt x) ∧ Only w w' v.ownBlock v'.ownBlock := by
  refine (putCount_any v l.length l x B w hown hB h1 h2 hn).mono ?_
  rintro e w' ⟨v', rfl, h, k⟩
  exact ⟨v', rfl, by unfold OL; rw [List.length_append]; exact h, k⟩
theorem putValue_ol (v : Value) (l : List UInt8) (x : V) (B : Nat) (w : World) (hown : OL w B v l) (hB : B ≤ w.heap.size) (hx : GoodV x) (hn : l.length ≤ 549755813888) :
    Calls Tryz.prog 116 #[v, .agg #[.int .i64 x.k, .int .i64 x.n, .string x.s]] w fun e w' => ∃ v', e = .returned v' ∧ OL w' B v' (l ++ encVal x) ∧ Below B w w' := by
  refine (putValue_any v l.length l x B w hown hB hx.1 hx.2.1 hn hx.2.2).mono ?_
  rintro e w' ⟨v', rfl, h, k⟩
  exact ⟨v', rfl, by unfold OL; rw [List.length_append]; exact h, k⟩
theorem refInt_ol (x : Int) (w : World) (h1 : -9223372036854775808 ≤ x) (h2 : x ≤ 9223372036854775807) :
    Calls Tryz.prog 64 #[.int .i64 x] w fun e w' => ∃ v', e = .returned v' ∧ OL w' w.heap.size v' (encInt x) ∧ Below w.heap.size w w' := refInt_any x w h1 h2
theorem refValue_ol (x : V) (w : World) (hx : GoodV x) :
    Calls Tryz.prog 65 #[.agg #[.int .i64 x.k, .int .i64 x.n, .string x.s]] w fun e w' => ∃ v', e = .returned v' ∧ OL w' w.heap.size v' (encVal x) ∧ Below w.heap.size w w' := refValue_any x w hx.1 hx.2.1 hx.2.2

theorem take_flat {α : Type} (f : α → List UInt8) (l : List α) (k : Nat) (hk : k < l.length) : (l.take (k + 1)).flatMap f = (l.take k).flatMap f ++ f l[k] := by
  rw [List.take_succ_eq_append_getElem hk, List.flatMap_append]; simp
theorem flat_le {α : Type} (f : α → List UInt8) (l : List α) (k : Nat) : ((l.take k).flatMap f).length ≤ (l.flatMap f).length := by
  have h : l.flatMap f = (l.take k).flatMap f ++ (l.drop k).flatMap f := by rw [← List.flatMap_append, List.take_append_drop]
  rw [h, List.length_append]; omega
theorem flat_lt {α : Type} (f : α → List UInt8) (l : List α) (k : Nat) (hk : k < l.length) : ((l.take k).flatMap f).length + (f l[k]).length ≤ (l.flatMap f).length := by
  have := flat_le f l (k + 1)
  rw [take_flat f l k hk, List.length_append] at this
  exact this

end Go.Proofs.YtobhccmnlmlapaaGreatDoor.Wr
