import Derived.Test.YtkedbmpnhplmaaaWnB
import Derived.RangeFuncNested
import Derived.RangeFuncBound
import Derived.RangeFuncCalls
import Derived.RangeFuncLeaves
import Derived.RangeFuncBox
import Derived.Shelf.Abstract
import Derived.Shelf.RegionOpen
import Derived.OwnWalkIn
import Derived.TacticsInMore
import Derived.LoopNIn
import Derived.LoopIn
import Derived.Maps.AppendAt
import Derived.BigRegionIn
import Derived.Stop.RegionWithIn
namespace Go.Proofs.Ytkedbmpnhplmaaa
open Go.RowKit Go.Shelf
attribute [local go_sem] Oper.semAt_some
set_option linter.unusedVariables false
set_option linter.unusedSimpArgs false
set_option maxRecDepth 100000
set_option maxHeartbeats 2000000

theorem only_in (F : Fence) (n : Nat) (h5 : F.fn 25) (hro : F.round = none) (x : Wn) (w : World) :
    CallsIn F n Try.prog 25 #[wV x] w fun e w' => e = .returned (.func (.func 30) #[] #[.pointer (some ⟨w.heap.size, 0, none⟩)]) ∧ w' = w.alloc (.cells #[.int .i64 x.a, .int .i64 x.b] 24) := by
  unfold wV
  refine callsIn_of_wp Try.func25 rfl h5 ?_ hro
  simp only [Try.ntmps25, List.size_toArray, List.length_cons, List.length_nil, Nat.reduceAdd, Nat.reduceSub, Array.replicate_succ, Array.replicate_zero, List.push_toArray, List.append_toArray, List.nil_append, List.cons_append]
  gi_wp2
  go_ret
  exact ⟨rfl, rfl⟩

theorem only1_in (F : Fence) (n : Nat) (h6 : F.fn 30) (hro : F.round = none) (hn : 1 ≤ n) (l Bs : Nat) (Kp : World → World → Prop) (x : Wn) (J Jx : List Wn → World → Prop)
    (hY : ∀ pre y W, J pre W → pre.length < 1 → YieldAt F (n - 1) Try.prog l #[wV y] W fun e W' =>
      (e = .returned (.bool true) ∧ J (pre ++ [y]) W' ∧ Kp W W') ∨ (e = .returned (.bool false) ∧ Jx (pre ++ [y]) W'))
    (W : World) (hc0 : W.cell? ⟨Bs, 0, none⟩ = some (.int .i64 x.a)) (hc1 : W.cell? ⟨Bs, 1, none⟩ = some (.int .i64 x.b)) (h0 : J [] W) :
    CallsIn F n Try.prog 30 #[.func (.yield l) #[] #[], .pointer (some ⟨Bs, 0, none⟩)] W fun e W' => (∃ v, e = .returned v) ∧
      ((∃ ys, ys = [x] ∧ J ys W') ∨ (∃ pre, pre = [x] ∧ Jx pre W')) := by
  refine callsIn_of_wp Try.func30 rfl h6 ?_ hro
  simp only [Try.ntmps30, List.size_toArray, List.length_cons, List.length_nil, Nat.reduceAdd, Nat.reduceSub, Array.replicate_succ, Array.replicate_zero, List.push_toArray, List.append_toArray, List.nil_append, List.cons_append]
  obtain ⟨fn, tmps, assign, body, hy, hR⟩ := hY [] x W h0 (by simp)
  unfold wV at hy
  gi_wp2
  refine hR.mono ?_
  rintro e W3 (⟨rfl, hJ3, hk3⟩ | ⟨rfl, hJx3⟩)
  · gi_wp2
    go_end0
    exact ⟨⟨_, rfl⟩, .inl ⟨_, rfl, hJ3⟩⟩
  · gi_wp2
    go_end0
    exact ⟨⟨_, rfl⟩, .inr ⟨_, rfl, hJx3⟩⟩

theorem only_stops (F : Fence) (n : Nat) (h6 : F.fn 30) (hro : F.round = none) (hn : 1 ≤ n) (Bs : Nat) (Kp : World → World → Prop) (x : Wn) (w : World) (hB : Bs < w.heap.size) (hc0 : w.cell? ⟨Bs, 0, none⟩ = some (.int .i64 x.a)) (hc1 : w.cell? ⟨Bs, 1, none⟩ = some (.int .i64 x.b)) :
    SeqStopsK F n Try.prog 30 #[.pointer (some ⟨Bs, 0, none⟩)] (fun y : Wn => #[wV y]) Kp (fun ys => ys = [x]) (fun pre => pre = [x]) 1 w := fun l J Jx W hW _ _ hY h0 =>
  only1_in F n h6 hro hn l Bs Kp x J Jx hY W ((hW.cell (p := ⟨Bs, 0, none⟩) hB).trans hc0) ((hW.cell (p := ⟨Bs, 1, none⟩) hB).trans hc1) h0

/-! Steps. -/
theorem stepped_in (F : Fence) (n : Nat) (h5 : F.fn 24) (hro : F.round = none) (s p t : Int) (w : World) :
    CallsIn F n Try.prog 24 #[.int .i64 s, .int .i64 p, .int .i64 t] w fun e w' => e = .returned (.func (.func 29) #[] #[.pointer (some ⟨w.heap.size + 2, 0, none⟩), .pointer (some ⟨w.heap.size + 1, 0, none⟩), .pointer (some ⟨w.heap.size, 0, none⟩)]) ∧
      w' = ((w.alloc (.cells #[.int .i64 s] 2)).alloc (.cells #[.int .i64 p] 2)).alloc (.cells #[.int .i64 t] 2) := by
  refine callsIn_of_wp Try.func24 rfl h5 ?_ hro
  simp only [Try.ntmps24, List.size_toArray, List.length_cons, List.length_nil, Nat.reduceAdd, Nat.reduceSub, Array.replicate_succ, Array.replicate_zero, List.push_toArray, List.append_toArray, List.nil_append, List.cons_append]
  gi_wp2
  go_ret
  exact ⟨rfl, rfl⟩

/-- The windows that have a time, of a size, one each step. -/
def sBase (s p t : Int) : Int := (t - t % p) - ((s - 1 - t % p).tdiv p) * p
def sCnt (s p t : Int) : Nat := ((s - 1 - t % p).tdiv p).toNat
def sAt (s p t : Int) (k : Nat) : Int := sBase s p t + (k : Int) * p
def sWn (s p t : Int) (k : Nat) : Wn := ⟨sAt s p t k, sAt s p t k + s⟩
def upto {α : Type} (f : Nat → α) (k : Nat) : List α := (List.range k).map f
theorem upto_succ {α : Type} (f : Nat → α) (k : Nat) : upto f (k + 1) = upto f k ++ [f k] := by simp [upto, List.range_succ]
theorem upto_length {α : Type} (f : Nat → α) (k : Nat) : (upto f k).length = k := by simp [upto]

structure SOk (s p t : Int) : Prop where
  hp : 1 ≤ p
  hps : p ≤ s
  hs : s ≤ 1048576
  ht : 0 ≤ t
  htm : t ≤ 1099511627776

theorem SOk.tm {s p t : Int} (h : SOk s p t) : 0 ≤ t % p ∧ t % p < p ∧ t % p ≤ t := by
  obtain ⟨h1, h2, h3, h4, h5⟩ := h
  exact ⟨Int.emod_nonneg _ (by omega), Int.emod_lt_of_pos _ (by omega), by have := Int.mul_ediv_add_emod t p; have h7 : 0 ≤ p * (t / p) := Int.mul_nonneg (by omega) (Int.ediv_nonneg h4 (by omega)); omega⟩
theorem SOk.q {s p t : Int} (h : SOk s p t) : 0 ≤ (s - 1 - t % p).tdiv p ∧ ((s - 1 - t % p).tdiv p) * p ≤ s - 1 - t % p ∧ s - 1 - t % p < ((s - 1 - t % p).tdiv p) * p + p ∧ (s - 1 - t % p).tdiv p ≤ s := by
  have ⟨a1, a2, a3⟩ := h.tm
  obtain ⟨h1, h2, h3, h4, h5⟩ := h
  generalize t % p = r at *
  have hn : 0 ≤ s - 1 - r := by omega
  rw [Int.tdiv_eq_ediv_of_nonneg hn]
  have e := Int.mul_ediv_add_emod (s - 1 - r) p
  have g1 := Int.emod_nonneg (s - 1 - r) (show p ≠ 0 by omega)
  have g2 := Int.emod_lt_of_pos (s - 1 - r) (show 0 < p by omega)
  have g3 : (s - 1 - r) / p ≤ s - 1 - r := Int.ediv_le_self _ hn
  rw [Int.mul_comm] at e
  exact ⟨Int.ediv_nonneg hn (by omega), by omega, by omega, by omega⟩
theorem SOk.le {s p t : Int} (h : SOk s p t) (k : Nat) : sAt s p t k ≤ t - t % p ↔ k ≤ sCnt s p t := by
  have ⟨a1, a2, a3, a4⟩ := h.q
  unfold sAt sBase sCnt
  generalize (s - 1 - t % p).tdiv p = q at *
  have h1 := h.hp
  constructor
  · intro h0
    by_cases hk : (k : Int) ≤ q
    · omega
    · have : (q + 1) * p ≤ (k : Int) * p := Int.mul_le_mul_of_nonneg_right (by omega) (by omega)
      rw [Int.add_mul] at this
      omega
  · intro h0
    have : (k : Int) * p ≤ q * p := Int.mul_le_mul_of_nonneg_right (by omega) (by omega)
    omega
theorem sAt_succ (s p t : Int) (k : Nat) : sAt s p t (k + 1) = sAt s p t k + p := by
  unfold sAt; rw [Int.natCast_add, Int.add_mul]; omega
theorem SOk.bd {s p t : Int} (h : SOk s p t) (k : Nat) (hk : k ≤ sCnt s p t) : -1048576 ≤ sAt s p t k ∧ sAt s p t k ≤ t ∧ t < sAt s p t k + s := by
  have ⟨b1, b2, b3⟩ := h.tm
  have ⟨a1, a2, a3, a4⟩ := h.q
  have hle := (h.le k).2 hk
  have h1 := h.hp
  have h3 := h.hs
  have h4 := h.ht
  have : 0 ≤ (k : Int) * p := Int.mul_nonneg (by omega) (by omega)
  unfold sAt sBase at *
  omega
theorem sAt_zero (s p t : Int) : sAt s p t 0 = (t - t % p) - ((s - 1 - t % p).tdiv p) * p := by unfold sAt sBase; simp

/-- Block b holds the row of the slice that lies in the box B. -/
def RowAt (B : Nat) (t : TypeId) (W : World) (b : Nat) : Prop := ∃ len cap, W.heap[B]? = some (.cells #[.slice (some ⟨b, 0, none⟩) len cap] t (0, 0))
/-- Whatever is cells, but the box B and the row of its slice, lies as it lay. -/
def KpR (B : Nat) (t : TypeId) (W W' : World) : Prop := W.heap.size ≤ W'.heap.size ∧ ∀ b o, W.heap[b]? = some o → o.isCells = true → b ≠ B → ¬ RowAt B t W b → W'.heap[b]? = some o ∧ ¬ RowAt B t W' b
def KeptO (B : Nat) (t : TypeId) (W : World) (b : Nat) (cs : Array Value) (ty : TypeId) : Prop := W.heap[b]? = some (.cells cs ty (0, 0)) ∧ b ≠ B ∧ ¬ RowAt B t W b
theorem KeptO.to {B : Nat} {t : TypeId} {W W' : World} {b : Nat} {cs : Array Value} {ty : TypeId} (h : KeptO B t W b cs ty) (k : KpR B t W W') : KeptO B t W' b cs ty :=
  ⟨(k.2 b _ h.1 rfl h.2.1 h.2.2).1, h.2.1, (k.2 b _ h.1 rfl h.2.1 h.2.2).2⟩
theorem KpR.refl (B : Nat) (t : TypeId) (W : World) : KpR B t W W := ⟨Nat.le_refl _, fun b o h _ _ hr => ⟨h, hr⟩⟩
theorem KpR.trans {B : Nat} {t : TypeId} {X Y Z : World} (h : KpR B t X Y) (k : KpR B t Y Z) : KpR B t X Z := ⟨Nat.le_trans h.1 k.1, fun b o e1 ec e2 e3 => k.2 b o (h.2 b o e1 ec e2 e3).1 ec e2 (h.2 b o e1 ec e2 e3).2⟩
theorem KpR.drew (B : Nat) (t : TypeId) (W : World) : KpR B t W W.drew := ⟨Nat.le_refl _, fun b o h _ _ hr => ⟨h, hr⟩⟩
theorem kpR_b {B : Nat} {t : TypeId} {w : World} (hB : B < w.heap.size) (W : World) (l : Nat) (o o' : Obj) (hl : w.heap.size ≤ l) (h : W.heap[l]? = some o) (hc : o.isCells = false) (_ : o.isWalk = false) : KpR B t W (W.putObj l o') := by
  refine ⟨(grownBy_putObj' W l o').size, ?_⟩
  intro b ob e1 ec e2 e3
  have hbl : b ≠ l := by
    intro e; subst e; rw [h] at e1; cases e1; rw [hc] at ec; cases ec
  refine ⟨(World.putObj_heap_other hbl).trans e1, ?_⟩
  rintro ⟨len, cap, e4⟩
  rw [World.putObj_heap_other (by omega)] at e4
  exact e3 ⟨len, cap, e4⟩
/-- A cell that is kept. -/
def KeptC (B : Nat) (t : TypeId) (W : World) (a : Addr) (v : Value) : Prop := W.cell? a = some v ∧ a.block ≠ B ∧ ¬ RowAt B t W a.block
theorem cell_obj {W : World} {a : Addr} {v : Value} (h : W.cell? a = some v) : ∃ o, W.heap[a.block]? = some o ∧ o.isCells = true := by
  unfold World.cell? at h
  split at h
  · rename_i cs ty fr e
    exact ⟨_, e, rfl⟩
  · cases h
theorem KeptC.to {B : Nat} {t : TypeId} {W W' : World} {a : Addr} {v : Value} (h : KeptC B t W a v) (k : KpR B t W W') : KeptC B t W' a v := by
  obtain ⟨h1, h2, h3⟩ := h
  obtain ⟨o, ho, hc⟩ := cell_obj h1
  obtain ⟨k1, k2⟩ := k.2 _ o ho hc h2 h3
  exact ⟨(World.cell?_of_block (k1.trans ho.symm)).trans h1, h2, k2⟩
theorem RowAt.below {B : Nat} {t : TypeId} {w W : World} (hb : Below w.heap.size w W) (hB : B < w.heap.size) {b : Nat} (h : RowAt B t W b) : RowAt B t w b := by
  obtain ⟨len, cap, e⟩ := h
  exact ⟨len, cap, (hb.block B hB).symm.trans e⟩
theorem KeptO.below {B : Nat} {t : TypeId} {w W : World} {b : Nat} {cs : Array Value} {ty : TypeId} (h : KeptO B t w b cs ty) (hb : Below w.heap.size w W) (hB : B < w.heap.size) : KeptO B t W b cs ty :=
  ⟨(hb.block b (Array.getElem?_eq_some_iff.1 h.1).1).trans h.1, h.2.1, fun k => h.2.2 (k.below hb hB)⟩
theorem KeptO.cell {B : Nat} {t : TypeId} {W : World} {b : Nat} {v : Value} {ty : TypeId} (h : KeptO B t W b #[v] ty) : W.cell? ⟨b, 0, none⟩ = some v := Boxed.cell (t := ty) h.1

theorem stepped1_in (n : Nat) (hn : 1 ≤ n) (l B0 B1 B2 B ty : Nat) (s p t : Int) (hok : SOk s p t) (J Jx : List Wn → World → Prop) (hJ : ∀ s A, J s A → J s A.drew)
    (hY : ∀ pre y W, J pre W → pre.length < sCnt s p t + 1 → YieldAt Fence.wide (n - 1) Try.prog l #[wV y] W fun e W' =>
      (e = .returned (.bool true) ∧ J (pre ++ [y]) W' ∧ KpR B ty W W') ∨ (e = .returned (.bool false) ∧ Jx (pre ++ [y]) W'))
    (W : World) (k0 : KeptO B ty W B0 #[.int .i64 t] 2) (k1 : KeptO B ty W B1 #[.int .i64 p] 2) (k2 : KeptO B ty W B2 #[.int .i64 s] 2) (h0 : J [] W) :
    CallsIn Fence.wide n Try.prog 29 #[.func (.yield l) #[] #[], .pointer (some ⟨B0, 0, none⟩), .pointer (some ⟨B1, 0, none⟩), .pointer (some ⟨B2, 0, none⟩)] W fun e W' => (∃ v, e = .returned v) ∧
      ((∃ ys, ys = upto (sWn s p t) (sCnt s p t + 1) ∧ J ys W') ∨ (∃ pre, (∃ k, k ≤ sCnt s p t ∧ pre = upto (sWn s p t) (k + 1)) ∧ Jx pre W')) := by
  have hc0 := k0.cell
  have hc1 := k1.cell
  have hc2 := k2.cell
  have ⟨b1, b2, b3⟩ := hok.tm
  have ⟨a1, a2, a3, a4⟩ := hok.q
  have ⟨o1, o2, o3, o4, o5⟩ := hok
  have hp0 : (p == 0) = false := by simp; omega
  have w1 : wrap64 (t - t % p) = t - t % p := w64 (by omega) (by omega)
  have w2 : wrap64 (s - 1) = s - 1 := w64 (by omega) (by omega)
  have w3 : wrap64 (s - 1 - t % p) = s - 1 - t % p := w64 (by omega) (by omega)
  have w4 : wrap64 ((s - 1 - t % p).tdiv p) = (s - 1 - t % p).tdiv p := w64 (by omega) (by omega)
  have w5 : wrap64 ((s - 1 - t % p).tdiv p * p) = (s - 1 - t % p).tdiv p * p := w64 (by omega) (by omega)
  have w6 : wrap64 (t - t % p - (s - 1 - t % p).tdiv p * p) = sAt s p t 0 := by rw [sAt_zero]; exact w64 (by omega) (by omega)
  have w7 : wrap64 (t % p) = t % p := w64 (by omega) (by omega)
  refine callsIn_of_wp Try.func29 rfl trivial ?_ rfl
  simp only [Try.ntmps29, List.size_toArray, List.length_cons, List.length_nil, Nat.reduceAdd, Nat.reduceSub, Array.replicate_succ, Array.replicate_zero, List.push_toArray, List.append_toArray, List.nil_append, List.cons_append]
  gi_wp2
  gi_region
  gi_wp2
  gi_region
  gi_wp2
  gi_loopw [7] (fun x wr => ∃ k : Nat, k ≤ sCnt s p t + 1 ∧ x = .int .i64 (sAt s p t k) ∧ J (upto (sWn s p t) k) wr ∧ KpR B ty W wr)
    (fun x _ => (t + p - intOf x).toNat)
  case atStart => exact ⟨0, Nat.zero_le _, by rw [sAt_zero], hJ _ _ (hJ _ _ h0), (KpR.drew _ _ _).trans (KpR.drew _ _ _)⟩
  case round =>
    obtain ⟨k, hk, rfl, hJs, hnx⟩ := hrel
    have d0 := (k0.to hnx).cell
    have d1 := (k1.to hnx).cell
    have d2 := (k2.to hnx).cell
    by_cases hlt : k ≤ sCnt s p t
    · have hle : sAt s p t k ≤ t - t % p := (hok.le k).2 hlt
      have ⟨c1, c2, c3⟩ := hok.bd k hlt
      have v1 : wrap64 (sAt s p t k + s) = sAt s p t k + s := w64 (by omega) (by omega)
      have v2 : wrap64 (sAt s p t k + p) = sAt s p t (k + 1) := by rw [sAt_succ]; exact w64 (by omega) (by omega)
      have hs1 := sAt_succ s p t k
      obtain ⟨fn, tmps, assign, body, hy, hR⟩ := hY _ ⟨sAt s p t k, sAt s p t k + s⟩ wr hJs (by rw [upto_length]; omega)
      unfold wV at hy
      dsimp only at hy
      have hW : sWn s p t k = ⟨sAt s p t k, sAt s p t k + s⟩ := rfl
      generalize sAt s p t k = X at *
      gi_wp2
      refine hR.mono ?_
      rintro e W3 (⟨rfl, hJ3, hk3⟩ | ⟨rfl, hJx3⟩)
      · have e1 := ((k1.to hnx).to hk3).cell
        gi_wp2
        go_roundw
        case rel => exact ⟨k + 1, by omega, by rw [hs1], by rw [upto_succ, hW]; exact hJ3, hnx.trans hk3⟩
        case measure => simp [intOf]; omega
      · gi_wp2
        refine bodyPost_ret (results_none rfl _ _ _) rfl ?_
        exact ⟨⟨_, rfl⟩, .inr ⟨_, ⟨k, hlt, by rw [upto_succ, hW]⟩, hJx3⟩⟩
    · obtain rfl : k = sCnt s p t + 1 := by omega
      have hle : ¬ sAt s p t (sCnt s p t + 1) ≤ t - t % p := fun h => hlt ((hok.le _).1 h)
      gi_wp2
      go_end0
      exact ⟨⟨_, rfl⟩, .inl hJs⟩

theorem stepped_stops (n : Nat) (hn : 1 ≤ n) (B0 B1 B2 B ty : Nat) (s p t : Int) (hok : SOk s p t) (w : World) (hB : B < w.heap.size)
    (k0 : KeptO B ty w B0 #[.int .i64 t] 2) (k1 : KeptO B ty w B1 #[.int .i64 p] 2) (k2 : KeptO B ty w B2 #[.int .i64 s] 2) :
    SeqStopsK Fence.wide n Try.prog 29 #[.pointer (some ⟨B0, 0, none⟩), .pointer (some ⟨B1, 0, none⟩), .pointer (some ⟨B2, 0, none⟩)] (fun y : Wn => #[wV y]) (KpR B ty) (fun ys => ys = upto (sWn s p t) (sCnt s p t + 1)) (fun pre => ∃ k, k ≤ sCnt s p t ∧ pre = upto (sWn s p t) (k + 1)) (sCnt s p t + 1) w := fun l J Jx W hW hJ _ hY h0 =>
  stepped1_in n hn l B0 B1 B2 B ty s p t hok J Jx (fun u A h => hJ u A A.drew none h ⟨rfl, rfl, rfl, Nat.le_refl _, fun _ _ _ => rfl⟩ (fun _ e => by cases e)) hY W (k0.below hW hB) (k1.below hW hB) (k2.below hW hB) h0
end Go.Proofs.Ytkedbmpnhplmaaa
