import Derived.Test.YtmeeoamcelkhmaaGreatDoorTbA
import Derived.RangeFuncSeq
import Derived.RangeFuncGives
import Derived.RangeFuncNested
import Derived.RangeFuncBox
import Derived.Sort.MapsRangeIn
import Derived.Sort.KeysCollected
import Derived.WalkKit
import Derived.OwnWalkIn
import Derived.TacticsInMore
import Derived.RegionIn
import Derived.LoopNIn
import Derived.LoopIn
import Derived.Deep.AppendLies
namespace Go.Proofs.YtmeeoamcelkhmaaGreatDoor
open Go.RowKit Go.Maps Go.Sort
set_option linter.unusedVariables false
set_option linter.unusedSimpArgs false
set_option maxRecDepth 100000

theorem kl_int {t : TypeId} (hu : Tryz.prog.underlying t = some (.int .i64)) (d : Nat) (x : Value) (ls : List Lit) (h : Tryz.prog.keyLits (d + 1) t [x] = some ls) : ∃ n, x = .int .i64 n ∧ (Lit.int .i64 n).wf = true ∧ ls = [.int .i64 n] := by
  unfold Program.keyLits at h
  rw [hu] at h
  cases x <;> simp at h
  obtain ⟨⟨rfl, h1⟩, rfl⟩ := h
  exact ⟨_, rfl, h1, rfl⟩
theorem kl_str {t : TypeId} (hu : Tryz.prog.underlying t = some .string) (d : Nat) (x : Value) (ls : List Lit) (h : Tryz.prog.keyLits (d + 1) t [x] = some ls) : ∃ s : ByteArray, x = .string s ∧ s.size ≤ maxLen ∧ ls = [.string s.data.toList] := by
  unfold Program.keyLits at h
  rw [hu] at h
  cases x <;> simp at h
  obtain ⟨h1, rfl⟩ := h
  exact ⟨_, rfl, h1, rfl⟩
theorem keyV_inv {key : Value} {kl : Lit} (h : keyOf Tryz.prog 27 key = some kl) : ∃ v, key = vv v ∧ Fits v ∧ kl = keyV v := by
  have hu := Tryz.underlying27
  unfold keyOf at h
  rw [hu] at h
  simp only [keyTypeV, Bool.true_and] at h
  split at h
  case isFalse => cases h
  case isTrue hf =>
    cases key <;> simp [Value.formed, hu] at hf
    rename_i cs
    rw [cellsOfV] at hf
    obtain ⟨a, b, c, rfl⟩ : ∃ a b c, cs = #[a, b, c] := by
      obtain ⟨l⟩ := cs
      match l, hf with
      | [a, b, c], _ => exact ⟨a, b, c, rfl⟩
    rw [show Tryz.prog.types.size = (182 - 1) + 1 from by kernel_rfl] at h
    unfold Program.keyLits at h
    rw [hu] at h
    simp [Value.cells, cellsOfV, cellsOfI, cellsOfS, List.mapM_cons] at h
    cases h1 : Tryz.prog.keyLits (182 - 1 + 1) 3 [a] with
    | none => simp [h1] at h
    | some l1 =>
    cases h2 : Tryz.prog.keyLits (182 - 1 + 1) 9 [b] with
    | none => simp [h1, h2] at h
    | some l2 =>
    cases h3 : Tryz.prog.keyLits (182 - 1 + 1) 3 [c] with
    | none => simp [h1, h2, h3] at h
    | some l3 =>
    simp [h1, h2, h3] at h
    subst h
    obtain ⟨k, rfl, e1, rfl⟩ := kl_int Tryz.underlying3 _ _ _ h1
    obtain ⟨s, rfl, e2, rfl⟩ := kl_str Tryz.underlying9 _ _ _ h2
    obtain ⟨n, rfl, e3, rfl⟩ := kl_int Tryz.underlying3 _ _ _ h3
    exact ⟨⟨k, s, n⟩, rfl, ⟨e1, e2, e3⟩, rfl⟩
theorem same_keyV (a b : Tx) (ha : Fits a) (hb : Fits b) : (keyV a).sameKey (keyV b) = true ↔ a = b := by
  constructor
  · intro h
    refine keyV_inj a b ha hb ?_
    unfold keyV at h ⊢
    simpa [Lit.sameKey] using h
  · rintro rfl; unfold keyV; simp [Lit.sameKey]
/-- What has come of a set, and what is left of it. -/
def CollV (D : DataW Value) (left : Lit → Bool) (vs : List Tx) : Prop := vs.Nodup ∧ (∀ v ∈ vs, Fits v) ∧ ∀ v, Fits v → (v ∈ vs ↔ Maps.has D (keyV v) = true ∧ left (keyV v) = false)
theorem CollV.start (D : DataW Value) : CollV D (Maps.has D) [] := ⟨List.nodup_nil, fun v h => (by cases h), fun v _ => by cases Maps.has D (keyV v) <;> simp⟩
theorem CollV.step {D : DataW Value} {left : Lit → Bool} {vs : List Tx} {v : Tx} {y : DataW Value} (h : CollV D left vs) (hv : Fits v) (hlk : left (keyV v) = true) (hat : ∀ zd, D.atKey (keyV v) zd = y) : CollV D (fun z => left z && !z.sameKey (keyV v)) (vs ++ [v]) := by
  have hhas : Maps.has D (keyV v) = true := has_true_of_atKey hat
  have hnew : v ∉ vs := fun hx => by have := ((h.2.2 v hv).1 hx).2; rw [hlk] at this; cases this
  refine ⟨List.nodup_append.2 ⟨h.1, by simp, fun a ha b hb => by simp at hb; subst hb; exact fun e => hnew (e ▸ ha)⟩, fun x hx => ?_, fun x hx => ?_⟩
  · rcases List.mem_append.1 hx with h' | h'
    · exact h.2.1 x h'
    · rw [List.mem_singleton.1 h']; exact hv
  · by_cases e : x = v
    · subst e
      have : (keyV x).sameKey (keyV x) = true := (same_keyV x x hv hv).2 rfl
      simp [hhas, this]
    · have : (keyV x).sameKey (keyV v) = false := by
        cases hs : (keyV x).sameKey (keyV v) with
        | false => rfl
        | true => exact absurd ((same_keyV x v hx hv).1 hs) e
      simp [h.2.2 x hx, e, this]
/-- maps.Keys's walk. -/
def KeysV (D : DataW Value) (vs : List Tx) : Prop := vs.Nodup ∧ (∀ v ∈ vs, Fits v) ∧ ∀ v, Fits v → (v ∈ vs ↔ Maps.has D (keyV v) = true)
set_option maxHeartbeats 1000000 in
theorem keys1V (F : Fence) (n : Nat) (h10 : F.fn 37) (hro : F.round = none) (hn : 1 ≤ n) (l Bm b nn : Nat) (D0 : DataW Value) (J Jx : List Tx → World → Prop)
    (hY : ∀ pre x W, J pre W → pre.length < Maps.size D0 → YieldAt F (n - 1) Tryz.prog l #[vv x] W fun e W' => (e = .returned (.bool true) ∧ J (pre ++ [x]) W' ∧ KeepsWalks W W') ∨ (e = .returned (.bool false) ∧ Jx (pre ++ [x]) W'))
    (W : World) (hJ : AbidesFrom W.heap.size J) (hm : W.cell? ⟨Bm, 0, none⟩ = some (.map (some b))) (hown : W.ownsMap Tryz.prog 27 heldE b nn D0) (h0 : J [] W) :
    CallsIn F n Tryz.prog 37 #[.func (.yield l) #[] #[], .pointer (some ⟨Bm, 0, none⟩)] W fun e W' => (∃ v, e = .returned v) ∧ ((∃ vs : List Tx, KeysV D0 vs ∧ J vs W') ∨ (∃ pre : List Tx, True ∧ Jx pre W')) := by
  refine callsIn_of_wp Tryz.func37 rfl h10 ?_ hro
  simp only [Tryz.ntmps37, List.size_toArray, List.length_cons, List.length_nil, Nat.reduceAdd, Nat.reduceSub, Array.replicate_succ, Array.replicate_zero, List.push_toArray, List.append_toArray, List.nil_append, List.cons_append]
  gi_wp2_with (first
    | (gi_at_range; refine wpListIn_range_own _ rfl _ 56 rfl 27 _ lawV Tryz.underlying56 _ b nn _ rfl hown ?_; intro w0 hrg0 hg0 hs0)
    | gi_in)
  go_frame
  gi_loopw [3] (fun _ wr => ∃ (left : Lit → Bool) (cnt : Nat) (ss : List Tx), wr.ranges Tryz.prog 27 heldE b W.heap.size nn D0 left cnt ∧ ss.length + cnt ≤ Maps.size D0 ∧ CollV D0 left ss ∧ J ss wr)
    (fun _ wr => wr.rangeLeft b W.heap.size)
  case atStart =>
    exact ⟨_, _, [], hrg0, by simp, CollV.start D0, hJ [] W w0 none h0 hg0 (fun r e => by cases e)⟩
  case round =>
    obtain ⟨left, cnt, ss, hrg, hcs, hC, hJs⟩ := hrel
    gi_wp2_with (first
      | (gi_at_next; refine wpListIn_next_ranges _ rfl _ rfl 27 lawV heldE vv id (fun key kl hk => by obtain ⟨x, hx, _⟩ := keyV_inv hk; exact ⟨x, hx⟩) (fun v _ _ => ⟨v, rfl⟩) b W.heap.size nn _ _ _ rfl hrg ?_ ?_)
      | gi_in)
    · intro hc0 hl0
      gi_wp2
      go_end0
      exact ⟨⟨_, rfl⟩, .inl ⟨ss, ⟨hC.1, hC.2.1, fun v hv => by rw [hC.2.2 v hv, hl0]; simp⟩, hJs⟩⟩
    · intro x c kl yd yp w2 cnt2 hkey hlk hv hat hrg2 hlt hg2 hs2 hen
      obtain ⟨x', ex, hfx, rfl⟩ := keyV_inv hkey
      obtain rfl : x = x' := vv_inj ex
      have hJ2 : J ss w2 := hJ ss wr w2 (some W.heap.size) hJs hg2 (fun r e => by cases e; exact ⟨Nat.le_refl _, hrg.iter_walk⟩)
      clear hs2
      have hJ3 : J ss (w2.alloc (.cells #[.int .i64 x.m, .string x.sn, .int .i64 x.tk] 27)) := hJ ss w2 _ none hJ2 (grown_below (r := none) (bel1 _ _)) (fun r e => by cases e)
      have hrg2' := hrg2.of_walks (KeepsWalks.alloc w2 (.cells #[.int .i64 x.m, .string x.sn, .int .i64 x.tk] 27))
      obtain ⟨fn, tmps, assign, body, hy, hR⟩ := hY ss x _ hJ3 (by omega)
      obtain ⟨xk, xn, xs⟩ := x
      unfold vv at hen hkey hy
      simp only [vv]
      gi_wp2
      refine hR.mono ?_
      rintro e W3 (⟨rfl, hJ4, hk3⟩ | ⟨rfl, hJx⟩)
      · gi_wp2
        have hrg3 := hrg2'.of_walks hk3
        go_roundw
        case rel => exact ⟨_, cnt2, ss ++ [_], hrg3, by simp; omega, hC.step hfx hlk hat, hJ4⟩
        case measure => rw [hrg3.left_eq, hrg.left_eq]; exact hlt
      · gi_wp2
        refine bodyPost_ret (results_none rfl _ _ _) rfl ?_
        exact ⟨⟨_, rfl⟩, .inr ⟨_, trivial, hJx⟩⟩
theorem keysV_stops (F : Fence) (n : Nat) (h10 : F.fn 37) (hro : F.round = none) (hn : 1 ≤ n) (Bm b nn : Nat) (D0 : DataW Value) (w : World) (hBm : Bm < w.heap.size) (hm : w.cell? ⟨Bm, 0, none⟩ = some (.map (some b))) (hown : w.ownsMap Tryz.prog 27 heldE b nn D0) :
    SeqStopsK F n Tryz.prog 37 #[.pointer (some ⟨Bm, 0, none⟩)] (fun v => #[vv v]) KeepsWalks (KeysV D0) (fun _ => True) (Maps.size D0) w := fun l J Jx W hW hJ _ hY h0 =>
  keys1V F n h10 hro hn l Bm b nn D0 J Jx hY W hJ ((hW.cell (p := ⟨Bm, 0, none⟩) hBm).trans hm) (hown.kept (grown_below (r := none) hW) (by simp)) h0
end Go.Proofs.YtmeeoamcelkhmaaGreatDoor
