import Derived.Test.YtoioaalkeanhgaaDoorDpA
namespace Go.Proofs.YtoioaalkeanhgaaDoor
open Go.RowKit
set_option linter.unusedVariables false
set_option linter.unusedSimpArgs false
set_option maxRecDepth 100000

theorem seal_pos (l : List UInt8) : 0 < (sealed l).length := by rw [sealed_len]; omega
theorem xor_byte (x y : Nat) (hx : x < 256) (hy : y < 256) (h0 : 0 < y) : ∃ z : UInt8, bits .xor .u8 (x : Int) (y : Int) = (z.toNat : Int) ∧ z.toNat ≠ x := by
  refine ⟨UInt8.ofNat (x ^^^ y), ?_, ?_⟩
  · rw [u8_xor_nat x y hx hy, UInt8.toNat_ofNat', Nat.mod_eq_of_lt (Nat.xor_lt_two_pow (n := 8) (by omega) (by omega))]
  · rw [UInt8.toNat_ofNat', Nat.mod_eq_of_lt (Nat.xor_lt_two_pow (n := 8) (by omega) (by omega))]
    intro h
    have : y = 0 := by
      have := congrArg (x ^^^ ·) h
      simpa [← Nat.xor_assoc] using this
    omega

/-- 'append(b, more...)': the first is one's own, the other any bytes. -/
theorem wpList_append_bytes {w : World} {ops : Array Oper} {rest : List Oper} {o : Oper} {a : Act} {Q : Exit → Act → World → Prop} (hgd : o.guard = none) (s x : Operand)
    (ho : o.op = .call { callee := .builtin .append, args := #[s, x], argTypes := #[26, 26] })
    (B : Nat) (v : Value) (l : List UInt8) (hs : a.eval s = v) (hown : OL w B v l) (a3 : Option Addr) (l3 p3 : Nat) (f3 : Nat → UInt8) (hx : a.eval x = .slice a3 l3 p3) (hb : Bytes w a3 l3 f3) (hn : a3 = none → p3 = 0)
    (hlen : l.length + l3 ≤ 140737488355328) (hbase : B ≤ w.heap.size)
    (h : ∀ v' w', OL w' B v' (l ++ blist f3 l3) → w.grownBy w' v.ownBlock → wpList Tryd.prog ops Q rest (a.put o.dst v') w') : wpList Tryd.prog ops Q (o :: rest) a w := by
  obtain ⟨i0, hi0, hz0, hz1, hz2⟩ := info_parts info5
  cases a3 with
  | none =>
    have h0 : l3 = 0 := by
      rcases Nat.eq_zero_or_pos l3 with h0 | h0
      · exact h0
      · obtain ⟨b, o, e, _⟩ := hb 0 h0; cases e
    have hp := hn rfl
    subst h0 hp
    refine wpList_append_own_none hgd s x 26 ho B 5 i0 1 Tryd.underlying26 hi0 v l.length (l.map u8v) hs hown hx ?_
    exact h v w (by rw [show blist f3 0 = [] by simp [blist], List.append_nil]; exact hown) (World.grownBy.refl _ _)
  | some ad =>
    refine wpList_append_own_at _ hgd s x 26 ho B 5 i0 (.int .u8 0) 1 1 Tryd.underlying26 hi0 hz0 hz1 hz2 rfl (by decide) v l.length (l.map u8v) hs hown ad l3 p3 ((blist f3 l3).map u8v) hx (by rw [List.length_map, blist_len]; omega) ?_ ?_ (by unfold maxLen; omega) (by omega) hbase ?_
    · intro j u hj
      have hj' : j < l3 := by
        have := (List.getElem?_eq_some_iff.1 hj).1
        rw [List.length_map, blist_len] at this
        exact this
      obtain ⟨b', o', e, hc⟩ := hb j hj'
      cases e
      rw [WideShapes.add_plain, hc]
      rw [← hj]
      simp [blist, hj', u8v]
    · intro u hu; obtain ⟨z, _, rfl⟩ := List.mem_map.1 hu; rfl
    · intro v' w' h3 h4 _ h5
      refine h v' w' ?_ h4
      unfold OL
      rw [List.length_append, blist_len, List.map_append]
      exact h3


/-- Offsets, and pieces, lie in memory where the slice 'a' begins. -/
def OfL (w : World) (a : Option Addr) (os : List Of) : Prop :=
  ∀ i (hi : i < os.length), ∃ b off, a = some ⟨b, off, none⟩ ∧ w.cell? ⟨b, off + i * 3, none⟩ = some (.int .i64 os[i].n) ∧ w.cell? ⟨b, off + i * 3 + 1, none⟩ = some (.int .i64 os[i].p) ∧ w.cell? ⟨b, off + i * 3 + 2, none⟩ = some (.int .i64 os[i].a)
def HdL (w : World) (a : Option Addr) (hs : List Hd) : Prop :=
  ∀ i (hi : i < hs.length), ∃ b off x c, a = some ⟨b, off, none⟩ ∧ w.cell? ⟨b, off + i * 3, none⟩ = some (.int .i64 hs[i].n) ∧ w.cell? ⟨b, off + i * 3 + 1, none⟩ = some (.int .i64 hs[i].g) ∧ w.cell? ⟨b, off + i * 3 + 2, none⟩ = some (.slice x hs[i].b.length c) ∧ Bytes w x hs[i].b.length (lat hs[i].b) ∧ (x = none → c = 0)
theorem OfL.later {w wx : World} {a : Option Addr} {os : List Of} (h : OfL w a os) (hb : Below w.heap.size w wx) : OfL wx a os := fun i hi => by
  obtain ⟨b, off, e, h1, h2, h3⟩ := h i hi
  exact ⟨b, off, e, cell_later hb h1, cell_later hb h2, cell_later hb h3⟩
theorem HdL.later {w wx : World} {a : Option Addr} {hs : List Hd} (h : HdL w a hs) (hb : Below w.heap.size w wx) : HdL wx a hs := fun i hi => by
  obtain ⟨b, off, x, c, e, h1, h2, h3, h4, h5⟩ := h i hi
  exact ⟨b, off, x, c, e, cell_later hb h1, cell_later hb h2, cell_later hb h3, h4.later hb, h5⟩
def wtH (hs : List Hd) : Nat := (hs.map fun h => 2 + h.b.length).sum
theorem wtH_take (hs : List Hd) (k : Nat) (hk : k < hs.length) : wtH (hs.take (k + 1)) = wtH (hs.take k) + (2 + hs[k].b.length) := by
  unfold wtH; rw [List.take_succ_eq_append_getElem hk, List.map_append, List.sum_append]; simp
theorem wtH_le (hs : List Hd) (k : Nat) : wtH (hs.take k) ≤ wtH hs := by
  have h : hs = hs.take k ++ hs.drop k := (List.take_append_drop k hs).symm
  conv => rhs; rw [h]
  unfold wtH; rw [List.map_append, List.sum_append]; omega
set_option maxHeartbeats 1000000 in
theorem weight_any (m : Int) (os : List Of) (hs : List Hd) (ao ah : Option Addr) (co ch : Nat) (w : World) (hH : HdL w ah hs) (h1 : os.length ≤ 549755813888) (h2 : hs.length ≤ 549755813888) (h3 : wtH hs ≤ 140737488355328) :
    Calls Tryd.prog 5 #[.agg #[.int .i64 m, .slice ao os.length co, .slice ah hs.length ch]] w fun e w' => e = .returned (.int .i64 ((1 + 3 * os.length + wtH hs : Nat) : Int)) ∧ Below w.heap.size w w' := by
  have HH := hidMk (hH.later (bel1 w (.cells #[.int .i64 m, .slice ao os.length co, .slice ah hs.length ch] 25)))
  clear hH
  go_enter Tryd.func5, Tryd.ntmps5
  go_wp2
  go_loopg [3, 4] hs.length (fun gk n i wr => ∃ k : Nat, gk + k = hs.length ∧ i = .int .i64 k ∧ n = .int .i64 ((1 + 3 * os.length + wtH (hs.take k) : Nat) : Int) ∧ wr = w.alloc (.cells #[.int .i64 m, .slice ao os.length co, .slice ah hs.length ch] 25))
  case atStart => exact ⟨0, by omega, rfl, by simp [wtH], rfl⟩
  case round =>
    obtain ⟨k, hgk, rfl, rfl, hwr⟩ := hrel
    subst hwr
    by_cases hk : k < hs.length
    · have hk' : (k : Int) < (hs.length : Int) := by omega
      obtain ⟨b, off, x, c, rfl, c1, c2, c3, -, -⟩ := HH.out k hk
      have HT : Hid (wtH (hs.take (k + 1)) = wtH (hs.take k) + (2 + hs[k].b.length)) := wtH_take hs k hk
      have hle := wtH_le hs (k + 1)
      have HTo := HT.out
      rw [HTo] at hle
      clear HTo
      generalize wtH (hs.take k) = q at *
      generalize hs[k].b.length = lb at *
      go_wp2
      go_roundg (gk - 1)
      case measure => omega
      case rel => exact ⟨k + 1, by omega, by go_num, by rw [HT.out]; go_num, rfl⟩
    · have hk' : ¬ (k : Int) < (hs.length : Int) := by omega
      obtain rfl : k = hs.length := by omega
      rw [List.take_length]
      go_wp2
      go_ret
      exact ⟨rfl, bel1 _ _⟩
end Go.Proofs.YtoioaalkeanhgaaDoor
