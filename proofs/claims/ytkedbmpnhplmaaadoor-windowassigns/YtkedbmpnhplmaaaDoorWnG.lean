import Derived.Test.YtkedbmpnhplmaaaDoorWnF
import Derived.Laws.AppendOwn
namespace Go.Proofs.YtkedbmpnhplmaaaDoor
open Go.RowKit Go.Shelf
set_option linter.unusedVariables false
set_option linter.unusedSimpArgs false
set_option maxRecDepth 100000
set_option maxHeartbeats 2000000

theorem SOk.from {s p t : Int} (h : SOk s p t) (k : Int) : (t / p + k) * p = t - t % p + k * p := by
  rw [Int.add_mul]
  have := Int.mul_ediv_add_emod t p
  rw [Int.mul_comm] at this
  omega
theorem SOk.hitA {s p t : Int} (h : SOk s p t) (k : Int) : t - t % p + k * p ≤ t ↔ k ≤ 0 := by
  have ⟨a1, a2, a3⟩ := h.tm
  have h1 := h.hp
  constructor
  · intro hk
    by_cases hk0 : k ≤ 0
    · exact hk0
    · have : 1 * p ≤ k * p := Int.mul_le_mul_of_nonneg_right (by omega) (by omega)
      omega
  · intro hk
    have : k * p ≤ 0 * p := Int.mul_le_mul_of_nonneg_right hk (by omega)
    omega
theorem SOk.cnt {s p t : Int} (h : SOk s p t) : ((sCnt s p t : Nat) : Int) = (s - 1 - t % p).tdiv p := by
  have ⟨a1, _⟩ := h.q
  unfold sCnt
  omega
theorem SOk.hitB {s p t : Int} (h : SOk s p t) (k : Int) : t < t - t % p + k * p + s ↔ -k ≤ (sCnt s p t : Nat) := by
  have ⟨a1, a2, a3, a4⟩ := h.q
  have hc := h.cnt
  rw [hc]
  have h1 := h.hp
  generalize (s - 1 - t % p).tdiv p = q at *
  constructor
  · intro hk
    by_cases hk0 : -k ≤ q
    · exact hk0
    · have : (q + 1) * p ≤ (-k) * p := Int.mul_le_mul_of_nonneg_right (by omega) (by omega)
      rw [Int.add_mul, Int.neg_mul] at this
      omega
  · intro hk
    have : (-k) * p ≤ q * p := Int.mul_le_mul_of_nonneg_right hk (by omega)
    rw [Int.neg_mul] at this
    omega
theorem SOk.at {s p t : Int} (h : SOk s p t) (j : Nat) (k : Int) (hj : (j : Int) = k + (sCnt s p t : Nat)) : t - t % p + k * p = sAt s p t j := by
  unfold sAt sBase
  rw [← h.cnt, hj, Int.add_mul]
  omega

/-- How many have been found when the count stands at k. -/
def mAt (c : Nat) (k : Int) : Nat := if k < -(c : Int) then 0 else if k ≤ 1 then (k + c).toNat else c + 1
theorem mAt_hit {c : Nat} {k : Int} (h1 : -k ≤ c) (h2 : k ≤ 0) : mAt c (k + 1) = mAt c k + 1 ∧ ((mAt c k : Nat) : Int) = k + c := by
  unfold mAt
  rw [if_neg (by omega), if_pos (by omega), if_neg (by omega), if_pos (by omega)]
  omega
theorem mAt_miss {c : Nat} {k : Int} (h : ¬ (k ≤ 0 ∧ -k ≤ c)) (h1 : k ≤ 1) : mAt c (k + 1) = mAt c k := by
  unfold mAt
  split <;> split <;> (try split) <;> (try split) <;> omega
theorem mAt_le (c : Nat) (k : Int) : mAt c k ≤ c + 1 := by
  unfold mAt; split
  · omega
  · split <;> omega

theorem ownsRow_base {w : World} {b b' e size n : Nat} {v : Value} {xs : List Value} (h : w.ownsRow b e size v n xs) (hb : b' ≤ b) : w.ownsRow b' e size v n xs := by
  refine ⟨h.1, ?_⟩
  rcases h.2 with h2 | ⟨g, cap, cur, h1, h2, h3⟩
  · exact .inl h2
  · exact .inr ⟨g, cap, cur, h1, Nat.le_trans hb h2, h3⟩
theorem below_own {B : Nat} {w0 w w1 : World} {e size n : Nat} {v : Value} {xs : List Value} {tmp : Obj} (hb : Below B w0 w) (hB : B ≤ w.heap.size) (hr : w.ownsRow B e size v n xs) (hg : (w.alloc tmp).grownBy w1 v.ownBlock) : Below B w0 w1 := by
  refine (hb.alloc hB tmp).grown hg (by simp; omega) fun j ej => ?_
  rcases hr.2 with ⟨rfl, _⟩ | ⟨g, cap, cur, rfl, h2, _⟩
  · simp [Value.ownBlock] at ej
  · obtain rfl : g = j := by simpa [Value.ownBlock] using ej
    exact h2

theorem refIn_step {k s p t q : Int} (hk : (k = 1 ∧ q = s) ∨ (k = 2 ∧ q = p)) (H : SOk s q t) (hc : sCnt s q t ≤ 64) (w : World) :
    Calls Tryd.prog 8 #[.agg #[.int .i64 k, .int .i64 s, .int .i64 p], .int .i64 t] w fun e w' => ∃ v, e = .returned v ∧ w'.ownsRow w.heap.size 39 2 v (sCnt s q t + 1) (wcells (upto (sWn s q t) (sCnt s q t + 1))) ∧ Below w.heap.size w w' := by
  obtain ⟨i0, hi, hz0, hz1, hz2⟩ := info_parts Tryd.infoWn
  have ⟨o1, o2, o3, o4, o5⟩ := H
  have ⟨b1, b2, b3⟩ := H.tm
  have hq0 : (q == 0) = false := by simp; omega
  rcases hk with ⟨rfl, rfl⟩ | ⟨rfl, rfl⟩
  · skip
    go_enter Tryd.func8, Tryd.ntmps8
    go_wp2
    have hs0 : (w.alloc (.cells #[.int .i64 1, .int .i64 q, .int .i64 p] 23)).cell? ⟨w.heap.size, 1, none⟩ = some (.int .i64 q) := by go_simp
    have hB0 := xbel1 w (.cells #[.int .i64 1, .int .i64 q, .int .i64 p] 23)
    generalize w.alloc (.cells #[.int .i64 1, .int .i64 q, .int .i64 p] 23) = W0 at *
    go_loopw [5, 7] (fun o kk wr => ∃ kv : Int, -70 ≤ kv ∧ kv ≤ 2 ∧ kk = .int .i64 kv ∧ wr.ownsRow W0.heap.size 39 2 o (mAt (sCnt q q t) kv) (wcells (upto (sWn q q t) (mAt (sCnt q q t) kv))) ∧ Below W0.heap.size W0 wr) (fun o kk _ => (2 - intOf kk).toNat)
    case atStart => exact ⟨-70, by omega, by omega, rfl, by rw [show mAt (sCnt q q t) (-70) = 0 from by unfold mAt; rw [if_pos (by omega)]]; exact World.ownsRow_nil _ _ _ _, Below.refl _ _⟩
    case round =>
      obtain ⟨kv, h70, h2, rfl, hrow, hb⟩ := hrel
      have hsw := xcell hb hs0
      by_cases hlt : kv ≤ 1
      · have hf := H.from kv
        have hA := H.hitA kv
        have hB := H.hitB kv
        have hml := mAt_le (sCnt q q t) kv
        have g1 : kv * q ≤ 1 * q := Int.mul_le_mul_of_nonneg_right hlt (by omega)
        have g2 : (-70) * q ≤ kv * q := Int.mul_le_mul_of_nonneg_right h70 (by omega)
        have g3 : 0 ≤ t / q := Int.ediv_nonneg o4 (by omega)
        have g4 : t / q ≤ t := Int.ediv_le_self _ o4
        have v0 : wrap64 (t / q) = t / q := w64 (by omega) (by omega)
        have v1 : wrap64 (t / q + kv) = t / q + kv := w64 (by omega) (by omega)
        have v2 : wrap64 ((t / q + kv) * q) = t - t % q + kv * q := by rw [hf]; exact w64 (by omega) (by omega)
        have v3 : wrap64 (t - t % q + kv * q + q) = t - t % q + kv * q + q := w64 (by omega) (by omega)
        have v4 : wrap64 (kv + 1) = kv + 1 := w64 (by omega) (by omega)
        by_cases hit : kv ≤ 0 ∧ -kv ≤ (sCnt q q t : Nat)
        · have c1 : t - t % q + kv * q ≤ t := hA.2 hit.1
          have c2 : t < t - t % q + kv * q + q := hB.2 hit.2
          obtain ⟨m1, m2⟩ := mAt_hit hit.2 hit.1
          have hat := H.at (mAt (sCnt q q t) kv) kv m2
          have HW : Hid (sWn q q t (mAt (sCnt q q t) kv) = ⟨t - t % q + kv * q, t - t % q + kv * q + q⟩) := by unfold Hid sWn; rw [hat]
          have M1 : Hid (mAt (sCnt q q t) (kv + 1) = mAt (sCnt q q t) kv + 1) := m1
          have HR : Hid (wr.ownsRow W0.heap.size 39 2 u5 (mAt (sCnt q q t) kv) (wcells (upto (sWn q q t) (mAt (sCnt q q t) kv)))) := hrow
          have HBb : Hid (Below W0.heap.size W0 wr) := hb
          have HSZ : W0.heap.size ≤ wr.heap.size := hb.size
          clear hA hB hf hat m1 m2 hrow hb hit
          generalize t - t % q + kv * q = X at *
          go_wp2_with (at_builtin; refine wpList_append_own _ rfl _ _ 24 rfl W0.heap.size 39 i0 (.agg #[.int .i64 0, .int .i64 0]) 2 16 Tryd.underlying24 hi hz0 hz1 hz2 rfl (by decide) _ _ _ rfl (HR.out.alloc _) ⟨wr.heap.size, 0, none⟩ 1 1 [.int .i64 X, .int .i64 (X + q)] rfl rfl ?c1 ?c2 ?c3 ?c4 ?c5 ?_)
          case c1 => exact cell_two_new _ _ _ _
          case c2 => intro u hu; simp at hu; rcases hu with rfl | rfl <;> rfl
          case c3 => unfold maxLen; omega
          case c4 => omega
          case c5 => simp; omega
          intro v' w1 hown' hgrow _
          have HB1 : Hid (Below W0.heap.size W0 w1) := below_own HBb.out HSZ HR.out hgrow
          have HO1 : Hid (w1.ownsRow W0.heap.size 39 2 v' (mAt (sCnt q q t) kv + 1) (wcells (upto (sWn q q t) (mAt (sCnt q q t) kv + 1)))) := by
            unfold Hid
            rw [upto_succ, wcells_snoc, HW.out]
            exact hown'
          clear hown' hgrow HR HBb
          go_wp2
          go_roundw
          case rel => exact ⟨kv + 1, by omega, by omega, rfl, by rw [M1.out]; exact HO1.out, HB1.out⟩
          case measure => simp [intOf]; omega
        · have HM : Hid (mAt (sCnt q q t) (kv + 1) = mAt (sCnt q q t) kv) := mAt_miss hit hlt
          have HR : Hid (wr.ownsRow W0.heap.size 39 2 u5 (mAt (sCnt q q t) kv) (wcells (upto (sWn q q t) (mAt (sCnt q q t) kv)))) := hrow
          clear hrow hml
          by_cases hk0 : kv ≤ 0
          · have c1 : t - t % q + kv * q ≤ t := hA.2 hk0
            have c2 : ¬ t < t - t % q + kv * q + q := fun h => hit ⟨hk0, hB.1 h⟩
            clear hA hB hf hit
            generalize t - t % q + kv * q = X at *
            go_wp2
            go_roundw
            case rel => exact ⟨kv + 1, by omega, by omega, rfl, by rw [HM.out]; exact HR.out, hb⟩
            case measure => simp [intOf]; omega
          · have c1 : ¬ t - t % q + kv * q ≤ t := fun h => hk0 (hA.1 h)
            clear hA hB hf hit
            generalize t - t % q + kv * q = X at *
            go_wp2
            go_roundw
            case rel => exact ⟨kv + 1, by omega, by omega, rfl, by rw [HM.out]; exact HR.out, hb⟩
            case measure => simp [intOf]; omega
      · obtain rfl : kv = 2 := by omega
        have hm : Hid (mAt (sCnt q q t) 2 = sCnt q q t + 1) := by unfold Hid mAt; rw [if_neg (by omega), if_neg (by omega)]
        go_wp2
        go_ret
        exact ⟨_, rfl, by rw [← hm.out]; exact ownsRow_base hrow hB0.size, hB0.trans (hb.mono hB0.size)⟩
  · skip
    go_enter Tryd.func8, Tryd.ntmps8
    go_wp2
    have hs0 : (w.alloc (.cells #[.int .i64 2, .int .i64 s, .int .i64 q] 23)).cell? ⟨w.heap.size, 1, none⟩ = some (.int .i64 s) := by go_simp
    have hB0 := xbel1 w (.cells #[.int .i64 2, .int .i64 s, .int .i64 q] 23)
    generalize w.alloc (.cells #[.int .i64 2, .int .i64 s, .int .i64 q] 23) = W0 at *
    go_loopw [5, 7] (fun o kk wr => ∃ kv : Int, -70 ≤ kv ∧ kv ≤ 2 ∧ kk = .int .i64 kv ∧ wr.ownsRow W0.heap.size 39 2 o (mAt (sCnt s q t) kv) (wcells (upto (sWn s q t) (mAt (sCnt s q t) kv))) ∧ Below W0.heap.size W0 wr) (fun o kk _ => (2 - intOf kk).toNat)
    case atStart => exact ⟨-70, by omega, by omega, rfl, by rw [show mAt (sCnt s q t) (-70) = 0 from by unfold mAt; rw [if_pos (by omega)]]; exact World.ownsRow_nil _ _ _ _, Below.refl _ _⟩
    case round =>
      obtain ⟨kv, h70, h2, rfl, hrow, hb⟩ := hrel
      have hsw := xcell hb hs0
      by_cases hlt : kv ≤ 1
      · have hf := H.from kv
        have hA := H.hitA kv
        have hB := H.hitB kv
        have hml := mAt_le (sCnt s q t) kv
        have g1 : kv * q ≤ 1 * q := Int.mul_le_mul_of_nonneg_right hlt (by omega)
        have g2 : (-70) * q ≤ kv * q := Int.mul_le_mul_of_nonneg_right h70 (by omega)
        have g3 : 0 ≤ t / q := Int.ediv_nonneg o4 (by omega)
        have g4 : t / q ≤ t := Int.ediv_le_self _ o4
        have v0 : wrap64 (t / q) = t / q := w64 (by omega) (by omega)
        have v1 : wrap64 (t / q + kv) = t / q + kv := w64 (by omega) (by omega)
        have v2 : wrap64 ((t / q + kv) * q) = t - t % q + kv * q := by rw [hf]; exact w64 (by omega) (by omega)
        have v3 : wrap64 (t - t % q + kv * q + s) = t - t % q + kv * q + s := w64 (by omega) (by omega)
        have v4 : wrap64 (kv + 1) = kv + 1 := w64 (by omega) (by omega)
        by_cases hit : kv ≤ 0 ∧ -kv ≤ (sCnt s q t : Nat)
        · have c1 : t - t % q + kv * q ≤ t := hA.2 hit.1
          have c2 : t < t - t % q + kv * q + s := hB.2 hit.2
          obtain ⟨m1, m2⟩ := mAt_hit hit.2 hit.1
          have hat := H.at (mAt (sCnt s q t) kv) kv m2
          have HW : Hid (sWn s q t (mAt (sCnt s q t) kv) = ⟨t - t % q + kv * q, t - t % q + kv * q + s⟩) := by unfold Hid sWn; rw [hat]
          have M1 : Hid (mAt (sCnt s q t) (kv + 1) = mAt (sCnt s q t) kv + 1) := m1
          have HR : Hid (wr.ownsRow W0.heap.size 39 2 u5 (mAt (sCnt s q t) kv) (wcells (upto (sWn s q t) (mAt (sCnt s q t) kv)))) := hrow
          have HBb : Hid (Below W0.heap.size W0 wr) := hb
          have HSZ : W0.heap.size ≤ wr.heap.size := hb.size
          clear hA hB hf hat m1 m2 hrow hb hit
          generalize t - t % q + kv * q = X at *
          go_wp2_with (at_builtin; refine wpList_append_own _ rfl _ _ 24 rfl W0.heap.size 39 i0 (.agg #[.int .i64 0, .int .i64 0]) 2 16 Tryd.underlying24 hi hz0 hz1 hz2 rfl (by decide) _ _ _ rfl (HR.out.alloc _) ⟨wr.heap.size, 0, none⟩ 1 1 [.int .i64 X, .int .i64 (X + s)] rfl rfl ?c1 ?c2 ?c3 ?c4 ?c5 ?_)
          case c1 => exact cell_two_new _ _ _ _
          case c2 => intro u hu; simp at hu; rcases hu with rfl | rfl <;> rfl
          case c3 => unfold maxLen; omega
          case c4 => omega
          case c5 => simp; omega
          intro v' w1 hown' hgrow _
          have HB1 : Hid (Below W0.heap.size W0 w1) := below_own HBb.out HSZ HR.out hgrow
          have HO1 : Hid (w1.ownsRow W0.heap.size 39 2 v' (mAt (sCnt s q t) kv + 1) (wcells (upto (sWn s q t) (mAt (sCnt s q t) kv + 1)))) := by
            unfold Hid
            rw [upto_succ, wcells_snoc, HW.out]
            exact hown'
          clear hown' hgrow HR HBb
          go_wp2
          go_roundw
          case rel => exact ⟨kv + 1, by omega, by omega, rfl, by rw [M1.out]; exact HO1.out, HB1.out⟩
          case measure => simp [intOf]; omega
        · have HM : Hid (mAt (sCnt s q t) (kv + 1) = mAt (sCnt s q t) kv) := mAt_miss hit hlt
          have HR : Hid (wr.ownsRow W0.heap.size 39 2 u5 (mAt (sCnt s q t) kv) (wcells (upto (sWn s q t) (mAt (sCnt s q t) kv)))) := hrow
          clear hrow hml
          by_cases hk0 : kv ≤ 0
          · have c1 : t - t % q + kv * q ≤ t := hA.2 hk0
            have c2 : ¬ t < t - t % q + kv * q + s := fun h => hit ⟨hk0, hB.1 h⟩
            clear hA hB hf hit
            generalize t - t % q + kv * q = X at *
            go_wp2
            go_roundw
            case rel => exact ⟨kv + 1, by omega, by omega, rfl, by rw [HM.out]; exact HR.out, hb⟩
            case measure => simp [intOf]; omega
          · have c1 : ¬ t - t % q + kv * q ≤ t := fun h => hk0 (hA.1 h)
            clear hA hB hf hit
            generalize t - t % q + kv * q = X at *
            go_wp2
            go_roundw
            case rel => exact ⟨kv + 1, by omega, by omega, rfl, by rw [HM.out]; exact HR.out, hb⟩
            case measure => simp [intOf]; omega
      · obtain rfl : kv = 2 := by omega
        have hm : Hid (mAt (sCnt s q t) 2 = sCnt s q t + 1) := by unfold Hid mAt; rw [if_neg (by omega), if_neg (by omega)]
        go_wp2
        go_ret
        exact ⟨_, rfl, by rw [← hm.out]; exact ownsRow_base hrow hB0.size, hB0.trans (hb.mono hB0.size)⟩
end Go.Proofs.YtkedbmpnhplmaaaDoor
