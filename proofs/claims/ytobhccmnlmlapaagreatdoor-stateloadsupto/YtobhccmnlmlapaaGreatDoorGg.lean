import Derived.Test.YtobhccmnlmlapaaGreatDoorGf
import Derived.Lib.AppendStr
import Derived.Laws.AppendOwnNone
import Derived.Maps.AppendAt
namespace Go.Proofs.YtobhccmnlmlapaaGreatDoor.Wr
open Go.RowKit
set_option linter.unusedVariables false
set_option maxRecDepth 100000

/-- Seven bits a byte, the lowest first. -/
def vint (u : Nat) : List UInt8 := if h : u < 128 then [UInt8.ofNat u] else UInt8.ofNat (u % 128 + 128) :: vint (u / 128)
termination_by u
decreasing_by omega
theorem vint_lt {u : Nat} (h : u < 128) : vint u = [UInt8.ofNat u] := by rw [vint, dif_pos h]
theorem vint_ge {u : Nat} (h : ¬ u < 128) : vint u = UInt8.ofNat (u % 128 + 128) :: vint (u / 128) := by rw [vint, dif_neg h]
def zig (n : Int) : Nat := if n < 0 then (-2 * n - 1).toNat else (2 * n).toNat
def encInt (n : Int) : List UInt8 := vint (zig n)
theorem zig_lt (n : Int) (h1 : -9223372036854775808 ≤ n) (h2 : n ≤ 9223372036854775807) : zig n < 18446744073709551616 := by unfold zig; split <;> omega
theorem vint_len_le : ∀ (k u : Nat), u < 128 ^ k → 0 < k → (vint u).length ≤ k
  | 0, u, h, h0 => by omega
  | k + 1, u, h, _ => by
    by_cases hu : u < 128
    · rw [vint_lt hu]; simp
    · rw [vint_ge hu]
      have hk : 0 < k := by
        rcases Nat.eq_zero_or_pos k with rfl | hk
        · simp at h; omega
        · exact hk
      have := vint_len_le k (u / 128) (by rw [Nat.pow_succ] at h; omega) hk
      simp; omega
theorem or128 (y : Nat) : bits .or .u8 ((y : Int) % 256) 128 = ((y % 128 + 128 : Nat) : Int) := by
  have key : ∀ z : Fin 256, bits .or .u8 ((z.val : Nat) : Int) 128 = ((z.val % 128 + 128 : Nat) : Int) := by decide +kernel
  have := key ⟨y % 256, by omega⟩
  simp only at this
  rw [show ((y : Int) % 256) = ((y % 256 : Nat) : Int) by omega, this, Nat.mod_mod_of_dvd _ (by decide : 128 ∣ 256)]
theorem u8v_ofNat (m : Nat) (h : m < 256) : u8v (UInt8.ofNat m) = .int .u8 (m : Int) := by
  unfold u8v; rw [UInt8.toNat_ofNat', Nat.mod_eq_of_lt h]
theorem zig_pos (n : Int) (h : ¬ n < 0) : (zig n : Int) = 2 * n := by unfold zig; rw [if_neg h]; omega
theorem zig_neg (n : Int) (h : n < 0) : (zig n : Int) = -2 * n - 1 := by unfold zig; rw [if_pos h]; omega

theorem encInt_len (x : Int) (h1 : -9223372036854775808 ≤ x) (h2 : x ≤ 9223372036854775807) : (encInt x).length ≤ 10 := by
  have := zig_lt x h1 h2
  exact vint_len_le 10 _ (Nat.lt_of_lt_of_le this (by decide)) (by decide)
theorem xor_ones (a : Nat) (h : a < 18446744073709551616) : a ^^^ 18446744073709551615 = 18446744073709551615 - a := by
  have e1 : (BitVec.ofNat 64 a ^^^ BitVec.allOnes 64) = ~~~ (BitVec.ofNat 64 a) := BitVec.xor_allOnes
  have e2 := congrArg BitVec.toNat e1
  rw [BitVec.toNat_xor, BitVec.toNat_not, BitVec.toNat_allOnes, BitVec.toNat_ofNat] at e2
  rw [Nat.mod_eq_of_lt (by omega)] at e2
  omega
theorem wrap64u (x : Int) : IntKind.u64.wrap x = x % 18446744073709551616 := by
  rfl
theorem zig_bits (x : Int) (h1 : -9223372036854775808 ≤ x) (h2 : x ≤ 9223372036854775807) :
    bits .xor .u64 (IntKind.u64.wrap (IntKind.u64.wrap x * 2)) (IntKind.u64.wrap (x / 9223372036854775808)) = ((zig x : Nat) : Int) := by
  rw [wrap64u, wrap64u, wrap64u]
  by_cases hx : x < 0
  · have e1 : x % 18446744073709551616 * 2 % 18446744073709551616 = (((18446744073709551616 + 2 * x).toNat : Nat) : Int) := by omega
    have e2 : x / 9223372036854775808 % 18446744073709551616 = ((18446744073709551615 : Nat) : Int) := by omega
    rw [e1, e2, u64_xor_nat _ _ (by omega) (by decide), xor_ones _ (by omega), zig_neg x hx]
    omega
  · have e1 : x % 18446744073709551616 * 2 % 18446744073709551616 = (((2 * x).toNat : Nat) : Int) := by omega
    have e2 : x / 9223372036854775808 % 18446744073709551616 = ((0 : Nat) : Int) := by omega
    rw [e1, e2, u64_xor_nat _ _ (by omega) (by decide), Nat.xor_zero, zig_pos x hx]
    omega

/-- Nothing but the row 'r' has turned; the row is where it was, or new. -/
structure Only (w w' : World) (r r' : Option Nat) : Prop where
  grown : w.grownBy w' r
  place : r' = r ∨ ∃ g, r' = some g ∧ w.heap.size ≤ g
theorem Only.refl (w : World) (r : Option Nat) : Only w w r r := ⟨World.grownBy.refl _ _, .inl rfl⟩
theorem Only.trans {w w1 w2 : World} {r r1 r2 : Option Nat} (h : Only w w1 r r1) (k : Only w1 w2 r1 r2) : Only w w2 r r2 := by
  refine ⟨⟨k.grown.os.trans h.grown.os, k.grown.tape.trans h.grown.tape, k.grown.output.trans h.grown.output, Nat.le_trans h.grown.size k.grown.size, fun i hi hr => ?_⟩, ?_⟩
  · refine (k.grown.block i (Nat.lt_of_lt_of_le hi h.grown.size) fun e => ?_).trans (h.grown.block i hi hr)
    rcases h.place with h1 | ⟨g, h1, h2⟩
    · exact hr (e.trans h1)
    · rw [h1] at e; have : i = g := Option.some.inj e
      omega
  · rcases k.place with k1 | ⟨g, k1, k2⟩
    · rw [k1]; exact h.place
    · exact .inr ⟨g, k1, Nat.le_trans h.grown.size k2⟩
theorem Only.alloc {w w1 : World} {r r1 : Option Nat} (h : Only w w1 r r1) (o : Obj) : Only w (w1.alloc o) r r1 :=
  h.trans ⟨⟨rfl, rfl, rfl, by simp, fun i hi _ => Below.heap_alloc _ _ _ hi⟩, .inl rfl⟩
theorem Only.app {w w1 w2 : World} {r r1 r2 : Option Nat} (h : Only w w1 r r1) (k : w1.grownBy w2 r1) (p : r2 = r1 ∨ r2 = some w1.heap.size) : Only w w2 r r2 :=
  h.trans ⟨k, p.imp id fun e => ⟨_, e, Nat.le_refl _⟩⟩
theorem Only.below {w w' : World} {v v' : Value} {B n : Nat} {xs : List Value} (h : Only w w' v.ownBlock v'.ownBlock) (ho : w.ownsRow B 5 1 v n xs) (hB : B ≤ w.heap.size) : Below B w w' :=
  (Below.refl _ _).grown h.grown hB fun k hk => (ho.lt k hk).1
theorem Only.cell {w w' : World} {r r' : Option Nat} {a : Addr} {u : Value} (h : Only w w' r r') (hc : w.cell? a = some u) (hne : some a.block ≠ r) : w'.cell? a = some u := h.grown.cell hc hne

set_option maxHeartbeats 2000000 in
theorem putInt_any (v : Value) (n : Nat) (l : List UInt8) (x : Int) (B : Nat) (w : World) (hown : w.ownsRow B 5 1 v n (l.map u8v)) (hB : B ≤ w.heap.size) (h1 : -9223372036854775808 ≤ x) (h2 : x ≤ 9223372036854775807) (hn : n ≤ 1099511627776) :
    Calls Tryz.prog 90 #[v, .int .i64 x] w fun e w' => ∃ v', e = .returned v' ∧ w'.ownsRow B 5 1 v' (n + (encInt x).length) ((l ++ encInt x).map u8v) ∧ Only w w' v.ownBlock v'.ownBlock := by
  obtain ⟨i0, hi0, hz0, hz1, hz2⟩ := info_parts info5
  have HO : Hid (w.ownsRow B 5 1 v n (l.map u8v)) := hown
  have HZ : Hid (encInt x = vint (zig x)) := rfl
  clear hown
  go_enter Tryz.func90, Tryz.ntmps90
  go_wp2
  rw [zig_bits x h1 h2]
  have hz := zig_lt x h1 h2
  have hl10 := encInt_len x h1 h2
  rw [HZ.out] at hl10
  generalize zig x = z0 at *
  go_loopw [0, 5] (fun v1 u w' => ∃ (y : Nat) (d : List UInt8), u = .int .u64 y ∧ y < 18446744073709551616 ∧ d ++ vint y = vint z0 ∧ w'.ownsRow B 5 1 v1 (n + d.length) ((l ++ d).map u8v) ∧ Only w w' v.ownBlock v1.ownBlock ∧ B ≤ w'.heap.size) (fun _ u _ => (intOf u).toNat)
  case atStart => exact ⟨z0, [], rfl, hz, rfl, by simpa using HO.out, Only.refl _ _, hB⟩
  case round =>
    obtain ⟨y, d, rfl, hy, hd, hown, hb, hsz⟩ := hrel
    have HW : Hid (wr.ownsRow B 5 1 u0 (n + d.length) ((l ++ d).map u8v)) := hown
    have HB : Hid (Only w wr v.ownBlock u0.ownBlock) := hb
    have HD : Hid (d ++ vint y = vint z0) := hd
    have hdl : d.length ≤ 10 := by
      have := congrArg List.length hd
      rw [List.length_append] at this
      omega
    clear hown hb hd HO
    by_cases h128 : y < 128
    · have hyi : (y : Int) < 128 := by omega
      have hy0 : (0 : Int) ≤ (y : Int) := by omega
      obtain ⟨c, hc⟩ : ∃ c, c = UInt8.ofNat y := ⟨_, rfl⟩
      have HV : Hid (vint y = [c]) := by rw [hc]; exact vint_lt h128
      have HC : Hid (u8v c = .int .u8 (y : Int)) := by rw [hc]; exact u8v_ofNat y (by omega)
      clear hc
      go_wp2_with (first
        | (at_builtin; refine wpList_append_own_at _ rfl _ _ 39 rfl B 5 i0 (.int .u8 0) 1 1 Tryz.underlying39 hi0 hz0 hz1 hz2 rfl (by decide) _ _ _ rfl (HW.out.alloc _) ⟨wr.heap.size, 0, none⟩ 1 1 [u8v c] rfl rfl ?c1 ?c2 ?c3 ?c4 ?c5 ?_))
      case c1 =>
        intro j u hj
        match j, hj with
        | 0, hj => simp at hj; subst hj; rw [HC.out]; simp [Addr.add]
      case c2 => intro u hu; simp at hu; subst hu; rfl
      case c3 => unfold maxLen; omega
      case c4 => omega
      case c5 => simp; omega
      · intro v2 w5 hown' hgrow _ hat
        have hB5 : Only w w5 v.ownBlock v2.ownBlock := (HB.out.alloc _).app hgrow (by simpa using hat)
        go_wp2
        go_ret
        refine ⟨v2, rfl, ?_, hB5⟩
        rw [HZ.out, ← HD.out, HV.out, List.length_append, ← Nat.add_assoc]
        simpa using hown'
    · have hyi : (128 : Int) ≤ (y : Int) := by omega
      obtain ⟨c, hc⟩ : ∃ c, c = UInt8.ofNat (y % 128 + 128) := ⟨_, rfl⟩
      have HV : Hid (vint y = c :: vint (y / 128)) := by rw [hc]; exact vint_ge h128
      have HC : Hid (u8v c = .int .u8 ((y % 128 + 128 : Nat) : Int)) := by rw [hc]; exact u8v_ofNat _ (by omega)
      clear hc
      have eo := or128 y
      go_wp2_with (first
        | (at_builtin; refine wpList_append_own_at _ rfl _ _ 39 rfl B 5 i0 (.int .u8 0) 1 1 Tryz.underlying39 hi0 hz0 hz1 hz2 rfl (by decide) _ _ _ rfl (HW.out.alloc _) ⟨wr.heap.size, 0, none⟩ 1 1 [u8v c] rfl rfl ?c1 ?c2 ?c3 ?c4 ?c5 ?_))
      case c1 =>
        intro j u hj
        match j, hj with
        | 0, hj => simp at hj; subst hj; rw [HC.out]; simp [Addr.add]
      case c2 => intro u hu; simp at hu; subst hu; rfl
      case c3 => unfold maxLen; omega
      case c4 => omega
      case c5 => simp; omega
      · intro v2 w5 hown' hgrow _ hat
        have hB5 : Only w w5 v.ownBlock v2.ownBlock := (HB.out.alloc _).app hgrow (by simpa using hat)
        have HB5 : Hid (Only w w5 v.ownBlock v2.ownBlock) := hB5
        have HO5 : Hid (w5.ownsRow B 5 1 v2 (n + (d ++ [c]).length) ((l ++ (d ++ [c])).map u8v)) := by
          unfold Hid
          rw [List.length_append, ← Nat.add_assoc]
          simpa using hown'
        have hs5 : B ≤ w5.heap.size := Nat.le_trans hB hB5.grown.size
        clear hown' hgrow hat hB5 eo HC
        go_wp2
        go_roundw
        case rel =>
          refine ⟨y / 128, _, by go_num, by omega, ?_, HO5.out, HB5.out, hs5⟩
          rw [List.append_assoc, ← HD.out, HV.out]; rfl
        case measure => simp [intOf]; omega
end Go.Proofs.YtobhccmnlmlapaaGreatDoor.Wr
namespace Go.Proofs.YtobhccmnlmlapaaGreatDoor.Wr
open Go.RowKit
set_option linter.unusedVariables false
set_option maxRecDepth 100000
theorem zig_ref (x : Int) (hx : x < 0) (h1 : -9223372036854775808 ≤ x) : bits .xor .u64 IntKind.u64.max (IntKind.u64.wrap (IntKind.u64.wrap x * 2)) = ((zig x : Nat) : Int) := by
  rw [wrap64u, wrap64u]
  have e1 : x % 18446744073709551616 * 2 % 18446744073709551616 = (((18446744073709551616 + 2 * x).toNat : Nat) : Int) := by omega
  have e2 : IntKind.u64.max = ((18446744073709551615 : Nat) : Int) := by decide
  rw [e1, e2, u64_xor_nat _ _ (by decide) (by omega), Nat.xor_comm, xor_ones _ (by omega), zig_neg x hx]
  omega

set_option maxHeartbeats 2000000 in
theorem refInt_any (x : Int) (w : World) (h1 : -9223372036854775808 ≤ x) (h2 : x ≤ 9223372036854775807) :
    Calls Tryz.prog 64 #[.int .i64 x] w fun e w' => ∃ v', e = .returned v' ∧ w'.ownsRow w.heap.size 5 1 v' (encInt x).length ((encInt x).map u8v) ∧ Below w.heap.size w w' := by
  obtain ⟨i0, hi0, hz0, hz1, hz2⟩ := info_parts info5
  have HZ : Hid (encInt x = vint (zig x)) := rfl
  go_enter Tryz.func64, Tryz.ntmps64
  by_cases hx : x < 0
  · go_wp2
    rw [show bits .xor .u64 IntKind.u64.max (IntKind.u64.wrap (IntKind.u64.wrap x * 2)) = ((zig x : Nat) : Int) from zig_ref x hx h1]
    have hz := zig_lt x h1 h2
    have hl10 := encInt_len x h1 h2
    rw [HZ.out] at hl10
    generalize zig x = z0 at *
    go_loopw [3, 4] (fun u v w' => ∃ (y : Nat) (d : List UInt8), u = .int .u64 y ∧ y < 18446744073709551616 ∧ d ++ vint y = vint z0 ∧ w'.ownsRow w.heap.size 5 1 v d.length (d.map u8v) ∧ Below w.heap.size w w' ∧ w.heap.size ≤ w'.heap.size) (fun u _ _ => (intOf u).toNat)
    case atStart => exact ⟨z0, [], rfl, hz, rfl, World.ownsRow_nil _ _ _ _, Below.refl _ _, Nat.le_refl _⟩
    case round =>
      obtain ⟨y, d, rfl, hy, hd, hown, hb, hsz⟩ := hrel
      have HW : Hid (wr.ownsRow w.heap.size 5 1 u4 d.length (d.map u8v)) := hown
      have HB : Hid (Below w.heap.size w wr) := hb
      have HD : Hid (d ++ vint y = vint z0) := hd
      have hdl : d.length ≤ 10 := by
        have := congrArg List.length hd
        rw [List.length_append] at this
        omega
      clear hown hb hd
      by_cases h128 : y < 128
      · have hyi : (y : Int) < 128 := by omega
        have hy0 : (0 : Int) ≤ (y : Int) := by omega
        obtain ⟨c, hc⟩ : ∃ c, c = UInt8.ofNat y := ⟨_, rfl⟩
        have HV : Hid (vint y = [c]) := by rw [hc]; exact vint_lt h128
        have HC : Hid (u8v c = .int .u8 (y : Int)) := by rw [hc]; exact u8v_ofNat y (by omega)
        clear hc
        go_wp2_with (first
          | (at_builtin; refine wpList_append_own _ rfl _ _ 39 rfl w.heap.size 5 i0 (.int .u8 0) 1 1 Tryz.underlying39 hi0 hz0 hz1 hz2 rfl (by decide) _ _ _ rfl (HW.out.alloc _) ⟨wr.heap.size, 0, none⟩ 1 1 [u8v c] rfl rfl ?c1 ?c2 ?c3 ?c4 ?c5 ?_))
        case c1 =>
          intro j u hj
          match j, hj with
          | 0, hj => simp at hj; subst hj; rw [HC.out]; simp [Addr.add]
        case c2 => intro u hu; simp at hu; subst hu; rfl
        case c3 => unfold maxLen; omega
        case c4 => omega
        case c5 => simp; omega
        · intro v2 w5 hown' hgrow _
          have hB5 : Below w.heap.size w w5 := (HB.out.alloc hsz _).grown hgrow (by simp; omega) (fun j hj => (HW.out.lt j hj).1)
          go_wp2
          go_ret
          refine ⟨v2, rfl, ?_, hB5⟩
          rw [HZ.out, ← HD.out, HV.out, List.length_append]
          simpa using hown'
      · have hyi : (128 : Int) ≤ (y : Int) := by omega
        obtain ⟨c, hc⟩ : ∃ c, c = UInt8.ofNat (y % 128 + 128) := ⟨_, rfl⟩
        have HV : Hid (vint y = c :: vint (y / 128)) := by rw [hc]; exact vint_ge h128
        have HC : Hid (u8v c = .int .u8 ((y % 128 + 128 : Nat) : Int)) := by rw [hc]; exact u8v_ofNat _ (by omega)
        clear hc
        have em : (0 : Int) ≤ (y : Int) := by omega
        go_wp2_with (first
          | (at_builtin; refine wpList_append_own _ rfl _ _ 39 rfl w.heap.size 5 i0 (.int .u8 0) 1 1 Tryz.underlying39 hi0 hz0 hz1 hz2 rfl (by decide) _ _ _ rfl (HW.out.alloc _) ⟨wr.heap.size, 0, none⟩ 1 1 [u8v c] rfl rfl ?c1 ?c2 ?c3 ?c4 ?c5 ?_))
        case c1 =>
          intro j u hj
          match j, hj with
          | 0, hj => simp at hj; subst hj; rw [HC.out]; simp [Addr.add]
        case c2 => intro u hu; simp at hu; subst hu; rfl
        case c3 => unfold maxLen; omega
        case c4 => omega
        case c5 => simp; omega
        · intro v2 w5 hown' hgrow _
          have hB5 : Below w.heap.size w w5 := (HB.out.alloc hsz _).grown hgrow (by simp; omega) (fun j hj => (HW.out.lt j hj).1)
          have HB5 : Hid (Below w.heap.size w w5) := hB5
          have HO5 : Hid (w5.ownsRow w.heap.size 5 1 v2 (d ++ [c]).length ((d ++ [c]).map u8v)) := by
            unfold Hid
            rw [List.length_append]
            simpa using hown'
          have hs5 : w.heap.size ≤ w5.heap.size := hB5.size
          clear hown' hgrow hB5 HC
          go_wp2
          go_roundw
          case rel =>
            refine ⟨y / 128, _, by go_num, by omega, ?_, HO5.out, HB5.out, hs5⟩
            rw [List.append_assoc, ← HD.out, HV.out]; rfl
          case measure => simp [intOf]; omega
  · go_wp2
    rw [show x * 2 = ((zig x : Nat) : Int) by rw [zig_pos x (by omega)]; omega]
    have hz := zig_lt x h1 h2
    have hl10 := encInt_len x h1 h2
    rw [HZ.out] at hl10
    generalize zig x = z0 at *
    go_loopw [3, 4] (fun u v w' => ∃ (y : Nat) (d : List UInt8), u = .int .u64 y ∧ y < 18446744073709551616 ∧ d ++ vint y = vint z0 ∧ w'.ownsRow w.heap.size 5 1 v d.length (d.map u8v) ∧ Below w.heap.size w w' ∧ w.heap.size ≤ w'.heap.size) (fun u _ _ => (intOf u).toNat)
    case atStart => exact ⟨z0, [], rfl, hz, rfl, World.ownsRow_nil _ _ _ _, Below.refl _ _, Nat.le_refl _⟩
    case round =>
      obtain ⟨y, d, rfl, hy, hd, hown, hb, hsz⟩ := hrel
      have HW : Hid (wr.ownsRow w.heap.size 5 1 u4 d.length (d.map u8v)) := hown
      have HB : Hid (Below w.heap.size w wr) := hb
      have HD : Hid (d ++ vint y = vint z0) := hd
      have hdl : d.length ≤ 10 := by
        have := congrArg List.length hd
        rw [List.length_append] at this
        omega
      clear hown hb hd
      by_cases h128 : y < 128
      · have hyi : (y : Int) < 128 := by omega
        have hy0 : (0 : Int) ≤ (y : Int) := by omega
        obtain ⟨c, hc⟩ : ∃ c, c = UInt8.ofNat y := ⟨_, rfl⟩
        have HV : Hid (vint y = [c]) := by rw [hc]; exact vint_lt h128
        have HC : Hid (u8v c = .int .u8 (y : Int)) := by rw [hc]; exact u8v_ofNat y (by omega)
        clear hc
        go_wp2_with (first
          | (at_builtin; refine wpList_append_own _ rfl _ _ 39 rfl w.heap.size 5 i0 (.int .u8 0) 1 1 Tryz.underlying39 hi0 hz0 hz1 hz2 rfl (by decide) _ _ _ rfl (HW.out.alloc _) ⟨wr.heap.size, 0, none⟩ 1 1 [u8v c] rfl rfl ?c1 ?c2 ?c3 ?c4 ?c5 ?_))
        case c1 =>
          intro j u hj
          match j, hj with
          | 0, hj => simp at hj; subst hj; rw [HC.out]; simp [Addr.add]
        case c2 => intro u hu; simp at hu; subst hu; rfl
        case c3 => unfold maxLen; omega
        case c4 => omega
        case c5 => simp; omega
        · intro v2 w5 hown' hgrow _
          have hB5 : Below w.heap.size w w5 := (HB.out.alloc hsz _).grown hgrow (by simp; omega) (fun j hj => (HW.out.lt j hj).1)
          go_wp2
          go_ret
          refine ⟨v2, rfl, ?_, hB5⟩
          rw [HZ.out, ← HD.out, HV.out, List.length_append]
          simpa using hown'
      · have hyi : (128 : Int) ≤ (y : Int) := by omega
        obtain ⟨c, hc⟩ : ∃ c, c = UInt8.ofNat (y % 128 + 128) := ⟨_, rfl⟩
        have HV : Hid (vint y = c :: vint (y / 128)) := by rw [hc]; exact vint_ge h128
        have HC : Hid (u8v c = .int .u8 ((y % 128 + 128 : Nat) : Int)) := by rw [hc]; exact u8v_ofNat _ (by omega)
        clear hc
        have em : (0 : Int) ≤ (y : Int) := by omega
        go_wp2_with (first
          | (at_builtin; refine wpList_append_own _ rfl _ _ 39 rfl w.heap.size 5 i0 (.int .u8 0) 1 1 Tryz.underlying39 hi0 hz0 hz1 hz2 rfl (by decide) _ _ _ rfl (HW.out.alloc _) ⟨wr.heap.size, 0, none⟩ 1 1 [u8v c] rfl rfl ?c1 ?c2 ?c3 ?c4 ?c5 ?_))
        case c1 =>
          intro j u hj
          match j, hj with
          | 0, hj => simp at hj; subst hj; rw [HC.out]; simp [Addr.add]
        case c2 => intro u hu; simp at hu; subst hu; rfl
        case c3 => unfold maxLen; omega
        case c4 => omega
        case c5 => simp; omega
        · intro v2 w5 hown' hgrow _
          have hB5 : Below w.heap.size w w5 := (HB.out.alloc hsz _).grown hgrow (by simp; omega) (fun j hj => (HW.out.lt j hj).1)
          have HB5 : Hid (Below w.heap.size w w5) := hB5
          have HO5 : Hid (w5.ownsRow w.heap.size 5 1 v2 (d ++ [c]).length ((d ++ [c]).map u8v)) := by
            unfold Hid
            rw [List.length_append]
            simpa using hown'
          have hs5 : w.heap.size ≤ w5.heap.size := hB5.size
          clear hown' hgrow hB5 HC
          go_wp2
          go_roundw
          case rel =>
            refine ⟨y / 128, _, by go_num, by omega, ?_, HO5.out, HB5.out, hs5⟩
            rw [List.append_assoc, ← HD.out, HV.out]; rfl
          case measure => simp [intOf]; omega
end Go.Proofs.YtobhccmnlmlapaaGreatDoor.Wr
