import Derived.Test.YtafighjlciglpaaDoorWrtB
import Derived.Deep.RegionHeld3
import Derived.Deep.Onto
namespace Go.Proofs.YtafighjlciglpaaDoor
open Go.RowKit Go.Lib
set_option linter.unusedVariables false
set_option maxRecDepth 100000

/-- A value. -/
structure V where
  k : Int
  n : Int
  s : ByteArray
def kb (k : Int) : UInt8 := UInt8.ofNat (k % 256).toNat
def encTail (v : V) : List UInt8 := if v.k = 1 ∨ v.k = 2 then encInt v.n else if v.k = 3 then encInt (v.s.size : Int) ++ v.s.data.toList else []
def encVal (v : V) : List UInt8 := kb v.k :: encTail v
theorem u8v_kb (k : Int) : u8v (kb k) = .int .u8 (k % 256) := by
  unfold kb; rw [u8v_ofNat _ (by omega)]; congr 1; omega
theorem strCells_eq (s : ByteArray) : strCells s = s.data.toList.map u8v := by
  rfl

theorem putCount_any (v : Value) (n : Nat) (l : List UInt8) (x : Int) (B : Nat) (w : World) (hown : w.ownsRow B 5 1 v n (l.map u8v)) (hB : B ≤ w.heap.size) (h1 : -9223372036854775808 ≤ x) (h2 : x ≤ 9223372036854775807) (hn : n ≤ 1099511627776) :
    Calls Tryd.prog 26 #[v, .int .i64 x] w fun e w' => ∃ v', e = .returned v' ∧ w'.ownsRow B 5 1 v' (n + (encInt x).length) ((l ++ encInt x).map u8v) ∧ Only w w' v.ownBlock v'.ownBlock := by
  have HO : Hid (w.ownsRow B 5 1 v n (l.map u8v)) := hown
  clear hown
  go_enter Tryd.func26, Tryd.ntmps26
  go_wp2_with fail
  refine (putInt_any v n l x B w HO.out hB h1 h2 hn).mono ?_
  rintro e w1 ⟨v', rfl, ho, hon⟩
  have H1 : Hid (w1.ownsRow B 5 1 v' (n + (encInt x).length) ((l ++ encInt x).map u8v)) := ho
  have H2 : Hid (Only w w1 v.ownBlock v'.ownBlock) := hon
  clear ho hon HO
  go_wp2
  go_ret
  exact ⟨v', rfl, H1.out, H2.out⟩

theorem only_ne {w w' : World} {r r' : Option Nat} {g : Nat} (h : Only w w' r r') (hg : g < w.heap.size) (hne : some g ≠ r) : some g ≠ r' := by
  rcases h.place with h1 | ⟨g', h1, h2⟩
  · rw [h1]; exact hne
  · rw [h1]; intro e; have := Option.some.inj e; omega
/-- 'append(b, s...)' at a step of a region that draws its order. -/
theorem step_append_own_string {P : Program} (w : World) {ops : Array Oper} {o : Oper} {a : Act} {K : Act → World → Prop} {Q : Exit → Act → World → Prop} {E : Prop} (hgd : o.guard = none) (sl x : Operand) (t u : TypeId)
    (ho : o.op = .call { callee := .builtin .append, args := #[sl, x], argTypes := #[t, u] })
    (base : Nat) (e : TypeId) (i : TypeInfo) (ht : P.underlying t = some (.slice e)) (hu : P.underlying u = some .string) (hi : P.info? e = some i) (hz : i.zero = some (.int .u8 0))
    (hsize : i.size = 1) (hby : i.bytes = 1)
    (v : Value) (n : Nat) (xs : List Value) (hs : a.eval sl = v) (hown : w.ownsRow base e 1 v n xs) (s : ByteArray) (hx : a.eval x = .string s)
    (h63 : n + s.size ≤ maxLen) (hbytes : n + s.size ≤ 140737488355328) (hbase : base ≤ w.heap.size)
    (h : ∀ v' w', w'.ownsRow base e 1 v' (n + s.size) (xs ++ strCells s) → w.grownBy w' v.ownBlock → (v' = .slice none 0 0 ↔ v = .slice none 0 0 ∧ s.size = 0) → K (a.put o.dst v') w') :
    if Region.wanted o (yielded ops a.tmps) = true then Oper.wp P o a w K Q else E := by
  have hw : Region.wanted o (yielded ops a.tmps) = true := by simp [Region.wanted, hgd]
  rw [if_pos hw]
  obtain ⟨v', w', hr, h2, h3, h4⟩ := run_append_own_string (P := P) w base t u o.type e i ht hu hi hz hsize hby v n xs hown s h63 hbytes hbase
  unfold Oper.wp execOp
  simp only [ho, resolve, invoke, builtin, Sem.run_bind, Sem.run_pure, Result.andThen_ok, List.map_toArray, List.map_cons, List.map_nil, hs, hx, hr]
  exact h v' w' h2 h3 h4

set_option maxHeartbeats 2000000 in
theorem putValue_any (v : Value) (n : Nat) (l : List UInt8) (x : V) (B : Nat) (w : World) (hown : w.ownsRow B 5 1 v n (l.map u8v)) (hB : B ≤ w.heap.size) (h1 : -9223372036854775808 ≤ x.n) (h2 : x.n ≤ 9223372036854775807) (hn : n ≤ 549755813888) (hs : x.s.size ≤ 549755813888) :
    Calls Tryd.prog 28 #[v, .agg #[.int .i64 x.k, .int .i64 x.n, .string x.s]] w fun e w' => ∃ v', e = .returned v' ∧ w'.ownsRow B 5 1 v' (n + (encVal x).length) ((l ++ encVal x).map u8v) ∧ Below B w w' := by
  obtain ⟨i0, hi0, hz0, hz1, hz2⟩ := info_parts info5
  have HO : Hid (w.ownsRow B 5 1 v n (l.map u8v)) := hown
  have HC : Hid (u8v (kb x.k) = .int .u8 (x.k % 256)) := u8v_kb x.k
  have HE : Hid (encVal x = kb x.k :: encTail x) := rfl
  have HT : Hid (encTail x = if x.k = 1 ∨ x.k = 2 then encInt x.n else if x.k = 3 then encInt (x.s.size : Int) ++ x.s.data.toList else []) := rfl
  clear hown
  generalize kb x.k = c at *
  go_enter Tryd.func28, Tryd.ntmps28
  go_wp2_with (first
    | (at_builtin; refine wpList_append_own_at _ rfl _ _ 22 rfl B 5 i0 (.int .u8 0) 1 1 Tryd.underlying22 hi0 hz0 hz1 hz2 rfl (by decide) _ _ _ rfl ((HO.out.alloc _).alloc _) ⟨w.heap.size + 1, 0, none⟩ 1 1 [u8v c] rfl rfl ?c1 ?c2 ?c3 ?c4 ?c5 ?_))
  case c1 =>
    intro j u hj
    match j, hj with
    | 0, hj => simp at hj; subst hj; rw [HC.out]; simp [Addr.add]
  case c2 => intro u hu; simp at hu; subst hu; rfl
  case c3 => unfold maxLen; omega
  case c4 => omega
  case c5 => simp; omega
  · intro v3 w3 hown' hgrow _ hat
    have hlt : ∀ k, v.ownBlock = some k → k < w.heap.size := fun k hk => (HO.out.lt k hk).2
    have hne : some w.heap.size ≠ v.ownBlock := fun e => by have := hlt _ e.symm; omega
    have c0 : w3.cell? ⟨w.heap.size, 0, none⟩ = some (.int .i64 x.k) := hgrow.cell (by simp) hne
    have c1 : w3.cell? ⟨w.heap.size, 1, none⟩ = some (.int .i64 x.n) := hgrow.cell (by simp) hne
    have c2 : w3.cell? ⟨w.heap.size, 2, none⟩ = some (.string x.s) := hgrow.cell (by simp) hne
    have H3 : Hid (w3.ownsRow B 5 1 v3 (n + 1) ((l ++ [c]).map u8v)) := by unfold Hid; simpa using hown'
    have hon : Only w w3 v.ownBlock v3.ownBlock := (((Only.refl _ _).alloc _).alloc _).app hgrow (by simpa using hat)
    have HB3 : Hid (Below B w w3) := hon.below HO.out hB
    have hne3 : some w.heap.size ≠ v3.ownBlock := by
      rcases hat with h | h
      · rw [h]; exact hne
      · rw [h]; simp; omega
    have hlt3 : w.heap.size < w3.heap.size := World.block_lt_of_cell? _ _ c0
    have hB3 : B ≤ w3.heap.size := Nat.le_trans hB hon.grown.size
    clear hown' hgrow hat hon HO
    by_cases hk1 : x.k = 1 ∨ x.k = 2
    · have HT' : Hid (encTail x = encInt x.n) := by rw [Hid, HT.out, if_pos hk1]
      rcases hk1 with hk | hk
      all_goals
        rw [hk] at c0
        go_wp2_with fail
        refine (putInt_any v3 (n + 1) (l ++ [c]) x.n B w3 H3.out hB3 h1 h2 (by omega)).mono ?_
        rintro e w5 ⟨v5, rfl, ho5, hon5⟩
        have H5 : Hid (w5.ownsRow B 5 1 v5 (n + 1 + (encInt x.n).length) ((l ++ [c] ++ encInt x.n).map u8v)) := ho5
        have HB5 : Hid (Below B w w5) := HB3.out.trans (hon5.below H3.out hB3)
        clear ho5 hon5
        go_wp2
        go_ret
        refine ⟨v5, rfl, ?_, HB5.out⟩
        rw [HE.out, HT'.out]
        have := H5.out
        rw [List.append_assoc] at this
        rw [List.length_cons, Nat.add_comm (encInt x.n).length 1, ← Nat.add_assoc]
        exact this
    · by_cases hk3 : x.k = 3
      · have HT' : Hid (encTail x = encInt (x.s.size : Int) ++ x.s.data.toList) := by rw [Hid, HT.out, if_neg hk1, if_pos hk3]
        have h10 := encInt_len (x.s.size : Int) (by omega) (by omega)
        rw [hk3] at c0
        go_wp2_with fail
        go_region_held3 (fun w' => w'.cell? ⟨w.heap.size, 2, none⟩ = some (.string x.s))
          (first | go_keep | exact Only.cell ‹_› ‹_› hne3 | exact World.grownBy.cell hg6 ‹_› hne5)
          (first
            | (go_at_call 26; refine (putCount_any v3 (n + 1) (l ++ [c]) (x.s.size : Int) B _ (by exact H3.out) (by exact hB3) (by omega) (by omega) (by omega)).mono ?_; rintro e w5 ⟨v5, rfl, ho5, hon5⟩; have hne5 := only_ne hon5 (by exact hlt3) hne3)
            | (refine step_append_own_string _ (by rfl) _ _ 22 9 (by rfl) B 5 i0 Tryd.underlying22 Tryd.underlying9 hi0 hz0 hz1 hz2 v5 _ _ (by rfl) (by exact ho5) x.s (by rfl) (by unfold maxLen; omega) (by omega) (by exact Nat.le_trans hB3 hon5.grown.size) ?_; intro v6 w6 ho6 hg6 _))
        have hb5 : Below B w w5 := HB3.out.drew.trans (hon5.below (by exact H3.out) (by exact hB3))
        have HB6 : Hid (Below B w w6) := hb5.grown hg6 (Nat.le_trans hB hb5.size) (fun j hj => (ho5.lt j hj).1)
        have H6 : Hid (w6.ownsRow B 5 1 v6 (n + (encVal x).length) ((l ++ encVal x).map u8v)) := by
          unfold Hid
          rw [HE.out, HT'.out]
          have e1 : (l ++ c :: (encInt (x.s.size : Int) ++ x.s.data.toList)).map u8v = (l ++ [c] ++ encInt (x.s.size : Int)).map u8v ++ strCells x.s := by rw [strCells_eq]; simp
          have e2 : n + (c :: (encInt (x.s.size : Int) ++ x.s.data.toList)).length = n + 1 + (encInt (x.s.size : Int)).length + x.s.size := by
            rw [List.length_cons, List.length_append, show x.s.data.toList.length = x.s.size by simp]; omega
          rw [e1, e2]
          exact ho6
        clear ho5 hon5 hne5 ho6 hg6 hb5
        go_wp2
        go_ret
        exact ⟨v6, rfl, H6.out, HB6.out⟩
      · have HT' : Hid (encTail x = []) := by rw [Hid, HT.out, if_neg hk1, if_neg hk3]
        have hk1' : ¬ x.k = 1 := fun h => hk1 (.inl h)
        have hk2' : ¬ x.k = 2 := fun h => hk1 (.inr h)
        go_wp2
        go_ret
        refine ⟨v3, rfl, ?_, HB3.out⟩
        rw [HE.out, HT'.out]
        exact H3.out

theorem vint_pos (u : Nat) : 0 < (vint u).length := by
  by_cases h : u < 128
  · rw [vint_lt h]; simp
  · rw [vint_ge h]; simp
theorem encInt_pos (x : Int) : 0 < (encInt x).length := vint_pos _

end Go.Proofs.YtafighjlciglpaaDoor
