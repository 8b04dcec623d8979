import Derived.Test.YtafighjlciglpaaDoorWrtA
namespace Go.Proofs.YtafighjlciglpaaDoor
open Go.RowKit
set_option linter.unusedVariables false
set_option maxRecDepth 100000
theorem zig_ref (x : Int) (hx : x < 0) (h1 : -9223372036854775808 ≤ x) : bits .xor .u64 IntKind.u64.max (IntKind.u64.wrap (IntKind.u64.wrap x * 2)) = ((zig x : Nat) : Int) := by
  rw [wrap64u, wrap64u]
  have e1 : x % 18446744073709551616 * 2 % 18446744073709551616 = (((18446744073709551616 + 2 * x).toNat : Nat) : Int) := by omega
  have e2 : IntKind.u64.max = ((18446744073709551615 : Nat) : Int) := by decide
  rw [e1, e2, u64_xor_nat _ _ (by decide) (by omega), Nat.xor_comm, xor_ones _ (by omega), zig_neg x hx]
  omega

set_option maxHeartbeats 2000000 in
theorem refInt_any (x : Int) (w : World) (h1 : -9223372036854775808 ≤ x) (h2 : x ≤ 9223372036854775807) :
    Calls Tryd.prog 31 #[.int .i64 x] w fun e w' => ∃ v', e = .returned v' ∧ w'.ownsRow w.heap.size 5 1 v' (encInt x).length ((encInt x).map u8v) ∧ Below w.heap.size w w' := by
  obtain ⟨i0, hi0, hz0, hz1, hz2⟩ := info_parts info5
  have HZ : Hid (encInt x = vint (zig x)) := rfl
  go_enter Tryd.func31, Tryd.ntmps31
  by_cases hx : x < 0
  · go_wp2
    rw [show bits .xor .u64 IntKind.u64.max (IntKind.u64.wrap (IntKind.u64.wrap x * 2)) = ((zig x : Nat) : Int) from zig_ref x hx h1]
    have hz := zig_lt x h1 h2
    have hl10 := encInt_len x h1 h2
    rw [HZ.out] at hl10
    generalize zig x = z0 at *
    go_loopw [3, 4] (fun u v w' => ∃ (y : Nat) (d : List UInt8), u = .int .u64 y ∧ y < 18446744073709551616 ∧ d ++ vint y = vint z0 ∧ w'.ownsRow w.heap.size 5 1 v d.length (d.map u8v) ∧ Below w.heap.size w w' ∧ w.heap.size ≤ w'.heap.size) (fun u _ _ => (intOf u).toNat)
    case atStart => exact ⟨z0, [], rfl, hz, rfl, World.ownsRow_nil _ _ _ _, Below.refl _ _, Nat.le_refl _⟩
    case round =>
      obtain ⟨y, d, rfl, hy, hd, hown, hb, hsz⟩ := hrel
      have HW : Hid (wr.ownsRow w.heap.size 5 1 u4 d.length (d.map u8v)) := hown
      have HB : Hid (Below w.heap.size w wr) := hb
      have HD : Hid (d ++ vint y = vint z0) := hd
      have hdl : d.length ≤ 10 := by
        have := congrArg List.length hd
        rw [List.length_append] at this
        omega
      clear hown hb hd
      by_cases h128 : y < 128
      · have hyi : (y : Int) < 128 := by omega
        have hy0 : (0 : Int) ≤ (y : Int) := by omega
        obtain ⟨c, hc⟩ : ∃ c, c = UInt8.ofNat y := ⟨_, rfl⟩
        have HV : Hid (vint y = [c]) := by rw [hc]; exact vint_lt h128
        have HC : Hid (u8v c = .int .u8 (y : Int)) := by rw [hc]; exact u8v_ofNat y (by omega)
        clear hc
        go_wp2_with (first
          | (at_builtin; refine wpList_append_own _ rfl _ _ 22 rfl w.heap.size 5 i0 (.int .u8 0) 1 1 Tryd.underlying22 hi0 hz0 hz1 hz2 rfl (by decide) _ _ _ rfl (HW.out.alloc _) ⟨wr.heap.size, 0, none⟩ 1 1 [u8v c] rfl rfl ?c1 ?c2 ?c3 ?c4 ?c5 ?_))
        case c1 =>
          intro j u hj
          match j, hj with
          | 0, hj => simp at hj; subst hj; rw [HC.out]; simp [Addr.add]
        case c2 => intro u hu; simp at hu; subst hu; rfl
        case c3 => unfold maxLen; omega
        case c4 => omega
        case c5 => simp; omega
        · intro v2 w5 hown' hgrow _
          have hB5 : Below w.heap.size w w5 := (HB.out.alloc hsz _).grown hgrow (by simp; omega) (fun j hj => (HW.out.lt j hj).1)
          go_wp2
          go_ret
          refine ⟨v2, rfl, ?_, hB5⟩
          rw [HZ.out, ← HD.out, HV.out, List.length_append]
          simpa using hown'
      · have hyi : (128 : Int) ≤ (y : Int) := by omega
        obtain ⟨c, hc⟩ : ∃ c, c = UInt8.ofNat (y % 128 + 128) := ⟨_, rfl⟩
        have HV : Hid (vint y = c :: vint (y / 128)) := by rw [hc]; exact vint_ge h128
        have HC : Hid (u8v c = .int .u8 ((y % 128 + 128 : Nat) : Int)) := by rw [hc]; exact u8v_ofNat _ (by omega)
        clear hc
        have em : (0 : Int) ≤ (y : Int) := by omega
        go_wp2_with (first
          | (at_builtin; refine wpList_append_own _ rfl _ _ 22 rfl w.heap.size 5 i0 (.int .u8 0) 1 1 Tryd.underlying22 hi0 hz0 hz1 hz2 rfl (by decide) _ _ _ rfl (HW.out.alloc _) ⟨wr.heap.size, 0, none⟩ 1 1 [u8v c] rfl rfl ?c1 ?c2 ?c3 ?c4 ?c5 ?_))
        case c1 =>
          intro j u hj
          match j, hj with
          | 0, hj => simp at hj; subst hj; rw [HC.out]; simp [Addr.add]
        case c2 => intro u hu; simp at hu; subst hu; rfl
        case c3 => unfold maxLen; omega
        case c4 => omega
        case c5 => simp; omega
        · intro v2 w5 hown' hgrow _
          have hB5 : Below w.heap.size w w5 := (HB.out.alloc hsz _).grown hgrow (by simp; omega) (fun j hj => (HW.out.lt j hj).1)
          have HB5 : Hid (Below w.heap.size w w5) := hB5
          have HO5 : Hid (w5.ownsRow w.heap.size 5 1 v2 (d ++ [c]).length ((d ++ [c]).map u8v)) := by
            unfold Hid
            rw [List.length_append]
            simpa using hown'
          have hs5 : w.heap.size ≤ w5.heap.size := hB5.size
          clear hown' hgrow hB5 HC
          go_wp2
          go_roundw
          case rel =>
            refine ⟨y / 128, _, by go_num, by omega, ?_, HO5.out, HB5.out, hs5⟩
            rw [List.append_assoc, ← HD.out, HV.out]; rfl
          case measure => simp [intOf]; omega
  · go_wp2
    rw [show x * 2 = ((zig x : Nat) : Int) by rw [zig_pos x (by omega)]; omega]
    have hz := zig_lt x h1 h2
    have hl10 := encInt_len x h1 h2
    rw [HZ.out] at hl10
    generalize zig x = z0 at *
    go_loopw [3, 4] (fun u v w' => ∃ (y : Nat) (d : List UInt8), u = .int .u64 y ∧ y < 18446744073709551616 ∧ d ++ vint y = vint z0 ∧ w'.ownsRow w.heap.size 5 1 v d.length (d.map u8v) ∧ Below w.heap.size w w' ∧ w.heap.size ≤ w'.heap.size) (fun u _ _ => (intOf u).toNat)
    case atStart => exact ⟨z0, [], rfl, hz, rfl, World.ownsRow_nil _ _ _ _, Below.refl _ _, Nat.le_refl _⟩
    case round =>
      obtain ⟨y, d, rfl, hy, hd, hown, hb, hsz⟩ := hrel
      have HW : Hid (wr.ownsRow w.heap.size 5 1 u4 d.length (d.map u8v)) := hown
      have HB : Hid (Below w.heap.size w wr) := hb
      have HD : Hid (d ++ vint y = vint z0) := hd
      have hdl : d.length ≤ 10 := by
        have := congrArg List.length hd
        rw [List.length_append] at this
        omega
      clear hown hb hd
      by_cases h128 : y < 128
      · have hyi : (y : Int) < 128 := by omega
        have hy0 : (0 : Int) ≤ (y : Int) := by omega
        obtain ⟨c, hc⟩ : ∃ c, c = UInt8.ofNat y := ⟨_, rfl⟩
        have HV : Hid (vint y = [c]) := by rw [hc]; exact vint_lt h128
        have HC : Hid (u8v c = .int .u8 (y : Int)) := by rw [hc]; exact u8v_ofNat y (by omega)
        clear hc
        go_wp2_with (first
          | (at_builtin; refine wpList_append_own _ rfl _ _ 22 rfl w.heap.size 5 i0 (.int .u8 0) 1 1 Tryd.underlying22 hi0 hz0 hz1 hz2 rfl (by decide) _ _ _ rfl (HW.out.alloc _) ⟨wr.heap.size, 0, none⟩ 1 1 [u8v c] rfl rfl ?c1 ?c2 ?c3 ?c4 ?c5 ?_))
        case c1 =>
          intro j u hj
          match j, hj with
          | 0, hj => simp at hj; subst hj; rw [HC.out]; simp [Addr.add]
        case c2 => intro u hu; simp at hu; subst hu; rfl
        case c3 => unfold maxLen; omega
        case c4 => omega
        case c5 => simp; omega
        · intro v2 w5 hown' hgrow _
          have hB5 : Below w.heap.size w w5 := (HB.out.alloc hsz _).grown hgrow (by simp; omega) (fun j hj => (HW.out.lt j hj).1)
          go_wp2
          go_ret
          refine ⟨v2, rfl, ?_, hB5⟩
          rw [HZ.out, ← HD.out, HV.out, List.length_append]
          simpa using hown'
      · have hyi : (128 : Int) ≤ (y : Int) := by omega
        obtain ⟨c, hc⟩ : ∃ c, c = UInt8.ofNat (y % 128 + 128) := ⟨_, rfl⟩
        have HV : Hid (vint y = c :: vint (y / 128)) := by rw [hc]; exact vint_ge h128
        have HC : Hid (u8v c = .int .u8 ((y % 128 + 128 : Nat) : Int)) := by rw [hc]; exact u8v_ofNat _ (by omega)
        clear hc
        have em : (0 : Int) ≤ (y : Int) := by omega
        go_wp2_with (first
          | (at_builtin; refine wpList_append_own _ rfl _ _ 22 rfl w.heap.size 5 i0 (.int .u8 0) 1 1 Tryd.underlying22 hi0 hz0 hz1 hz2 rfl (by decide) _ _ _ rfl (HW.out.alloc _) ⟨wr.heap.size, 0, none⟩ 1 1 [u8v c] rfl rfl ?c1 ?c2 ?c3 ?c4 ?c5 ?_))
        case c1 =>
          intro j u hj
          match j, hj with
          | 0, hj => simp at hj; subst hj; rw [HC.out]; simp [Addr.add]
        case c2 => intro u hu; simp at hu; subst hu; rfl
        case c3 => unfold maxLen; omega
        case c4 => omega
        case c5 => simp; omega
        · intro v2 w5 hown' hgrow _
          have hB5 : Below w.heap.size w w5 := (HB.out.alloc hsz _).grown hgrow (by simp; omega) (fun j hj => (HW.out.lt j hj).1)
          have HB5 : Hid (Below w.heap.size w w5) := hB5
          have HO5 : Hid (w5.ownsRow w.heap.size 5 1 v2 (d ++ [c]).length ((d ++ [c]).map u8v)) := by
            unfold Hid
            rw [List.length_append]
            simpa using hown'
          have hs5 : w.heap.size ≤ w5.heap.size := hB5.size
          clear hown' hgrow hB5 HC
          go_wp2
          go_roundw
          case rel =>
            refine ⟨y / 128, _, by go_num, by omega, ?_, HO5.out, HB5.out, hs5⟩
            rw [List.append_assoc, ← HD.out, HV.out]; rfl
          case measure => simp [intOf]; omega
end Go.Proofs.YtafighjlciglpaaDoor
