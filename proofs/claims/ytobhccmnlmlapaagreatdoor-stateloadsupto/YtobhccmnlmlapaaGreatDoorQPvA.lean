import Derived.Test.YtobhccmnlmlapaaGreatDoorGh
import Derived.Test.YtobhccmnlmlapaaGreatDoorGb
import Derived.Deep.RegionHeld3
import Derived.Deep.Onto
namespace Go.Proofs.YtobhccmnlmlapaaGreatDoor.Wr
open Go.RowKit Go.Lib
set_option linter.unusedVariables false
set_option maxRecDepth 100000

theorem Only.more {w w1 w2 : World} {r r1 : Option Nat} (h : Only w w1 r r1) (k : w1.grownBy w2 r1) : w.grownBy w2 r := by
  refine ⟨k.os.trans h.grown.os, k.tape.trans h.grown.tape, k.output.trans h.grown.output, Nat.le_trans h.grown.size k.size, fun i hi hr => ?_⟩
  refine (k.block i (Nat.lt_of_lt_of_le hi h.grown.size) fun e => ?_).trans (h.grown.block i hi hr)
  rcases h.place with h1 | ⟨g, h1, h2⟩
  · exact hr (e.trans h1)
  · rw [h1] at e; have : i = g := Option.some.inj e
    omega
theorem Only.drew (w : World) (r : Option Nat) : Only w w.drew r r := ⟨⟨rfl, rfl, rfl, Nat.le_refl _, fun _ _ _ => rfl⟩, .inl rfl⟩
set_option maxHeartbeats 2000000 in
theorem putValue_on (v : Value) (n : Nat) (l : List UInt8) (x : V) (B : Nat) (w : World) (hown : w.ownsRow B 5 1 v n (l.map u8v)) (hB : B ≤ w.heap.size) (h1 : -9223372036854775808 ≤ x.n) (h2 : x.n ≤ 9223372036854775807) (hn : n ≤ 549755813888) (hs : x.s.size ≤ 549755813888) :
    Calls Tryz.prog 116 #[v, .agg #[.int .i64 x.k, .int .i64 x.n, .string x.s]] w fun e w' => ∃ v', e = .returned v' ∧ w'.ownsRow B 5 1 v' (n + (encVal x).length) ((l ++ encVal x).map u8v) ∧ w.grownBy w' v.ownBlock := by
  obtain ⟨i0, hi0, hz0, hz1, hz2⟩ := info_parts info5
  have HO : Hid (w.ownsRow B 5 1 v n (l.map u8v)) := hown
  have HC : Hid (u8v (kb x.k) = .int .u8 (x.k % 256)) := u8v_kb x.k
  have HE : Hid (encVal x = kb x.k :: encTail x) := rfl
  have HT : Hid (encTail x = if x.k = 1 ∨ x.k = 2 then encInt x.n else if x.k = 3 then encInt (x.s.size : Int) ++ x.s.data.toList else []) := rfl
  clear hown
  generalize kb x.k = c at *
  go_enter Tryz.func116, Tryz.ntmps116
  go_wp2_with (first
    | (at_builtin; refine wpList_append_own_at _ rfl _ _ 39 rfl B 5 i0 (.int .u8 0) 1 1 Tryz.underlying39 hi0 hz0 hz1 hz2 rfl (by decide) _ _ _ rfl ((HO.out.alloc _).alloc _) ⟨w.heap.size + 1, 0, none⟩ 1 1 [u8v c] rfl rfl ?c1 ?c2 ?c3 ?c4 ?c5 ?_))
  case c1 =>
    intro j u hj
    match j, hj with
    | 0, hj => simp at hj; subst hj; rw [HC.out]; simp [Addr.add]
  case c2 => intro u hu; simp at hu; subst hu; rfl
  case c3 => unfold maxLen; omega
  case c4 => omega
  case c5 => simp; omega
  · intro v3 w3 hown' hgrow _ hat
    have hlt : ∀ k, v.ownBlock = some k → k < w.heap.size := fun k hk => (HO.out.lt k hk).2
    have hne : some w.heap.size ≠ v.ownBlock := fun e => by have := hlt _ e.symm; omega
    have c0 : w3.cell? ⟨w.heap.size, 0, none⟩ = some (.int .i64 x.k) := hgrow.cell (by simp) hne
    have c1 : w3.cell? ⟨w.heap.size, 1, none⟩ = some (.int .i64 x.n) := hgrow.cell (by simp) hne
    have c2 : w3.cell? ⟨w.heap.size, 2, none⟩ = some (.string x.s) := hgrow.cell (by simp) hne
    have H3 : Hid (w3.ownsRow B 5 1 v3 (n + 1) ((l ++ [c]).map u8v)) := by unfold Hid; simpa using hown'
    have hon : Only w w3 v.ownBlock v3.ownBlock := (((Only.refl _ _).alloc _).alloc _).app hgrow (by simpa using hat)
    have HB3 : Hid (Only w w3 v.ownBlock v3.ownBlock) := hon
    have hne3 : some w.heap.size ≠ v3.ownBlock := by
      rcases hat with h | h
      · rw [h]; exact hne
      · rw [h]; simp; omega
    have hlt3 : w.heap.size < w3.heap.size := World.block_lt_of_cell? _ _ c0
    have hB3 : B ≤ w3.heap.size := Nat.le_trans hB hon.grown.size
    clear hown' hgrow hat hon HO
    by_cases hk1 : x.k = 1 ∨ x.k = 2
    · have HT' : Hid (encTail x = encInt x.n) := by rw [Hid, HT.out, if_pos hk1]
      rcases hk1 with hk | hk
      all_goals
        rw [hk] at c0
        go_wp2_with fail
        refine (putInt_any v3 (n + 1) (l ++ [c]) x.n B w3 H3.out hB3 h1 h2 (by omega)).mono ?_
        rintro e w5 ⟨v5, rfl, ho5, hon5⟩
        have H5 : Hid (w5.ownsRow B 5 1 v5 (n + 1 + (encInt x.n).length) ((l ++ [c] ++ encInt x.n).map u8v)) := ho5
        have HB5 : Hid (Only w w5 v.ownBlock v5.ownBlock) := HB3.out.trans hon5
        clear ho5 hon5
        go_wp2
        go_ret
        refine ⟨v5, rfl, ?_, HB5.out.grown⟩
        rw [HE.out, HT'.out]
        have := H5.out
        rw [List.append_assoc] at this
        rw [List.length_cons, Nat.add_comm (encInt x.n).length 1, ← Nat.add_assoc]
        exact this
    · by_cases hk3 : x.k = 3
      · have HT' : Hid (encTail x = encInt (x.s.size : Int) ++ x.s.data.toList) := by rw [Hid, HT.out, if_neg hk1, if_pos hk3]
        have h10 := encInt_len (x.s.size : Int) (by omega) (by omega)
        rw [hk3] at c0
        go_wp2_with fail
        go_region_held3 (fun w' => w'.cell? ⟨w.heap.size, 2, none⟩ = some (.string x.s))
          (first | go_keep | exact Only.cell ‹_› ‹_› hne3 | exact World.grownBy.cell hg6 ‹_› hne5)
          (first
            | (go_at_call 131; refine (putCount_any v3 (n + 1) (l ++ [c]) (x.s.size : Int) B _ (by exact H3.out) (by exact hB3) (by omega) (by omega) (by omega)).mono ?_; rintro e w5 ⟨v5, rfl, ho5, hon5⟩; have hne5 := only_ne hon5 (by exact hlt3) hne3)
            | (refine step_append_own_string _ (by rfl) _ _ 39 9 (by rfl) B 5 i0 Tryz.underlying39 Tryz.underlying9 hi0 hz0 hz1 hz2 v5 _ _ (by rfl) (by exact ho5) x.s (by rfl) (by unfold maxLen; omega) (by omega) (by exact Nat.le_trans hB3 hon5.grown.size) ?_; intro v6 w6 ho6 hg6 hat6))
        have hb5 : Only w w5 v.ownBlock v5.ownBlock := (HB3.out.trans (Only.drew w3 _)).trans hon5
        have HB6 : Hid (w.grownBy w6 v.ownBlock) := hb5.more hg6
        have H6 : Hid (w6.ownsRow B 5 1 v6 (n + (encVal x).length) ((l ++ encVal x).map u8v)) := by
          unfold Hid
          rw [HE.out, HT'.out]
          have e1 : (l ++ c :: (encInt (x.s.size : Int) ++ x.s.data.toList)).map u8v = (l ++ [c] ++ encInt (x.s.size : Int)).map u8v ++ strCells x.s := by rw [strCells_eq]; simp
          have e2 : n + (c :: (encInt (x.s.size : Int) ++ x.s.data.toList)).length = n + 1 + (encInt (x.s.size : Int)).length + x.s.size := by
            rw [List.length_cons, List.length_append, show x.s.data.toList.length = x.s.size by simp]; omega
          rw [e1, e2]
          exact ho6
        clear ho5 hon5 hne5 ho6 hg6 hb5 hat6
        go_wp2
        go_ret
        exact ⟨v6, rfl, H6.out, HB6.out⟩
      · have HT' : Hid (encTail x = []) := by rw [Hid, HT.out, if_neg hk1, if_neg hk3]
        have hk1' : ¬ x.k = 1 := fun h => hk1 (.inl h)
        have hk2' : ¬ x.k = 2 := fun h => hk1 (.inr h)
        go_wp2
        go_ret
        refine ⟨v3, rfl, ?_, HB3.out.grown⟩
        rw [HE.out, HT'.out]
        exact H3.out
/-- Structs in blocks of their own stay. -/
def KeepO (w w' : World) : Prop := ∀ c T n xs, T ≠ 5 → Own w c T n xs → Own w' c T n xs
theorem KeepO.refl (w : World) : KeepO w w := fun _ _ _ _ _ h => h
theorem KeepO.trans {a b c : World} (h : KeepO a b) (k : KeepO b c) : KeepO a c := fun x T n xs hT ho => k x T n xs hT (h x T n xs hT ho)
theorem KeepO.below {a b : World} (h : Below a.heap.size a b) : KeepO a b := fun x T n xs hT ho => ho.later h
theorem KeepO.grown {w w' : World} {B n : Nat} {v : Value} {l : List Value} (hg : w.grownBy w' v.ownBlock) (ho : w.ownsRow B 5 1 v n l) : KeepO w w' := fun x T m xs hT hx => by
  refine hx.grown hg fun e => ?_
  rcases ho.2 with ⟨h1, _⟩ | ⟨g', cap, cur, h1, h2, h3, _⟩
  · rw [h1] at e; cases e
  · rw [h1] at e
    have e1 : x = g' := Option.some.inj e
    rcases hx.2 with ⟨k1, _⟩ | ⟨g2, cap2, cur2, k1, k2, k3, _⟩
    · cases k1
    · have e2 : x = g2 := by injection k1 with k1; injection k1 with k1; injection k1
      rw [← e1, e2, k3] at h3
      injection h3 with h3
      injection h3 with _ h4
      exact hT h4
theorem putInt_k (v : Value) (l : List UInt8) (x : Int) (B : Nat) (w : World) (hown : OL w B v l) (hB : B ≤ w.heap.size) (h1 : -9223372036854775808 ≤ x) (h2 : x ≤ 9223372036854775807) (hn : l.length ≤ 1099511627776) :
    Calls Tryz.prog 90 #[v, .int .i64 x] w fun e w' => ∃ v', e = .returned v' ∧ OL w' B v' (l ++ encInt x) ∧ Below B w w' ∧ KeepO w w' := by
  refine (putInt_ol v l x B w hown hB h1 h2 hn).mono ?_
  rintro e w' ⟨v', rfl, h, k⟩
  exact ⟨v', rfl, h, k.below hown hB, KeepO.grown k.grown hown⟩
theorem putValue_k (v : Value) (l : List UInt8) (x : V) (B : Nat) (w : World) (hown : OL w B v l) (hB : B ≤ w.heap.size) (hx : GoodV x) (hn : l.length ≤ 549755813888) :
    Calls Tryz.prog 116 #[v, .agg #[.int .i64 x.k, .int .i64 x.n, .string x.s]] w fun e w' => ∃ v', e = .returned v' ∧ OL w' B v' (l ++ encVal x) ∧ Below B w w' ∧ KeepO w w' := by
  refine (putValue_on v l.length l x B w hown hB hx.1 hx.2.1 hn hx.2.2).mono ?_
  rintro e w' ⟨v', rfl, h, k⟩
  exact ⟨v', rfl, by unfold OL; rw [List.length_append]; exact h, (Below.refl _ _).grown k hB fun j hj => (World.ownsRow.lt hown j hj).1, KeepO.grown k hown⟩
end Go.Proofs.YtobhccmnlmlapaaGreatDoor.Wr
