import Derived.Test.YtdbboaebigpkoaaGreatDoorWzA
import Derived.Lib.AppendStr
import Derived.Laws.AppendOwnNone
import Derived.Maps.AppendAt
import Derived.Deep.RegionHeld3
import Derived.Deep.Onto
namespace Go.Proofs.YtdbboaebigpkoaaGreatDoor.Wr
open Go.RowKit
set_option linter.unusedVariables false
set_option maxRecDepth 100000

/-- Seven bits a byte, the lowest first. -/
def vint (u : Nat) : List UInt8 := if h : u < 128 then [UInt8.ofNat u] else UInt8.ofNat (u % 128 + 128) :: vint (u / 128)
termination_by u
decreasing_by omega
theorem vint_lt {u : Nat} (h : u < 128) : vint u = [UInt8.ofNat u] := by rw [vint, dif_pos h]
theorem vint_ge {u : Nat} (h : ¬ u < 128) : vint u = UInt8.ofNat (u % 128 + 128) :: vint (u / 128) := by rw [vint, dif_neg h]
def zig (n : Int) : Nat := if n < 0 then (-2 * n - 1).toNat else (2 * n).toNat
def encInt (n : Int) : List UInt8 := vint (zig n)
theorem zig_lt (n : Int) (h1 : -9223372036854775808 ≤ n) (h2 : n ≤ 9223372036854775807) : zig n < 18446744073709551616 := by unfold zig; split <;> omega
theorem vint_len_le : ∀ (k u : Nat), u < 128 ^ k → 0 < k → (vint u).length ≤ k
  | 0, u, h, h0 => by omega
  | k + 1, u, h, _ => by
    by_cases hu : u < 128
    · rw [vint_lt hu]; simp
    · rw [vint_ge hu]
      have hk : 0 < k := by
        rcases Nat.eq_zero_or_pos k with rfl | hk
        · simp at h; omega
        · exact hk
      have := vint_len_le k (u / 128) (by rw [Nat.pow_succ] at h; omega) hk
      simp; omega
theorem or128 (y : Nat) : bits .or .u8 ((y : Int) % 256) 128 = ((y % 128 + 128 : Nat) : Int) := by
  have key : ∀ z : Fin 256, bits .or .u8 ((z.val : Nat) : Int) 128 = ((z.val % 128 + 128 : Nat) : Int) := by decide +kernel
  have := key ⟨y % 256, by omega⟩
  simp only at this
  rw [show ((y : Int) % 256) = ((y % 256 : Nat) : Int) by omega, this, Nat.mod_mod_of_dvd _ (by decide : 128 ∣ 256)]
theorem u8v_ofNat (m : Nat) (h : m < 256) : u8v (UInt8.ofNat m) = .int .u8 (m : Int) := by
  unfold u8v; rw [UInt8.toNat_ofNat', Nat.mod_eq_of_lt h]
theorem zig_pos (n : Int) (h : ¬ n < 0) : (zig n : Int) = 2 * n := by unfold zig; rw [if_neg h]; omega
theorem zig_neg (n : Int) (h : n < 0) : (zig n : Int) = -2 * n - 1 := by unfold zig; rw [if_pos h]; omega

theorem encInt_len (x : Int) (h1 : -9223372036854775808 ≤ x) (h2 : x ≤ 9223372036854775807) : (encInt x).length ≤ 10 := by
  have := zig_lt x h1 h2
  exact vint_len_le 10 _ (Nat.lt_of_lt_of_le this (by decide)) (by decide)
theorem xor_ones (a : Nat) (h : a < 18446744073709551616) : a ^^^ 18446744073709551615 = 18446744073709551615 - a := by
  have e1 : (BitVec.ofNat 64 a ^^^ BitVec.allOnes 64) = ~~~ (BitVec.ofNat 64 a) := BitVec.xor_allOnes
  have e2 := congrArg BitVec.toNat e1
  rw [BitVec.toNat_xor, BitVec.toNat_not, BitVec.toNat_allOnes, BitVec.toNat_ofNat] at e2
  rw [Nat.mod_eq_of_lt (by omega)] at e2
  omega
theorem wrap64u (x : Int) : IntKind.u64.wrap x = x % 18446744073709551616 := by
  rfl
theorem zig_bits (x : Int) (h1 : -9223372036854775808 ≤ x) (h2 : x ≤ 9223372036854775807) :
    bits .xor .u64 (IntKind.u64.wrap (IntKind.u64.wrap x * 2)) (IntKind.u64.wrap (x / 9223372036854775808)) = ((zig x : Nat) : Int) := by
  rw [wrap64u, wrap64u, wrap64u]
  by_cases hx : x < 0
  · have e1 : x % 18446744073709551616 * 2 % 18446744073709551616 = (((18446744073709551616 + 2 * x).toNat : Nat) : Int) := by omega
    have e2 : x / 9223372036854775808 % 18446744073709551616 = ((18446744073709551615 : Nat) : Int) := by omega
    rw [e1, e2, u64_xor_nat _ _ (by omega) (by decide), xor_ones _ (by omega), zig_neg x hx]
    omega
  · have e1 : x % 18446744073709551616 * 2 % 18446744073709551616 = (((2 * x).toNat : Nat) : Int) := by omega
    have e2 : x / 9223372036854775808 % 18446744073709551616 = ((0 : Nat) : Int) := by omega
    rw [e1, e2, u64_xor_nat _ _ (by omega) (by decide), Nat.xor_zero, zig_pos x hx]
    omega

/-- Nothing but the row 'r' has turned; the row is where it was, or new. -/
structure Only (w w' : World) (r r' : Option Nat) : Prop where
  grown : w.grownBy w' r
  place : r' = r ∨ ∃ g, r' = some g ∧ w.heap.size ≤ g
theorem Only.refl (w : World) (r : Option Nat) : Only w w r r := ⟨World.grownBy.refl _ _, .inl rfl⟩
theorem Only.trans {w w1 w2 : World} {r r1 r2 : Option Nat} (h : Only w w1 r r1) (k : Only w1 w2 r1 r2) : Only w w2 r r2 := by
  refine ⟨⟨k.grown.os.trans h.grown.os, k.grown.tape.trans h.grown.tape, k.grown.output.trans h.grown.output, Nat.le_trans h.grown.size k.grown.size, fun i hi hr => ?_⟩, ?_⟩
  · refine (k.grown.block i (Nat.lt_of_lt_of_le hi h.grown.size) fun e => ?_).trans (h.grown.block i hi hr)
    rcases h.place with h1 | ⟨g, h1, h2⟩
    · exact hr (e.trans h1)
    · rw [h1] at e; have : i = g := Option.some.inj e
      omega
  · rcases k.place with k1 | ⟨g, k1, k2⟩
    · rw [k1]; exact h.place
    · exact .inr ⟨g, k1, Nat.le_trans h.grown.size k2⟩
theorem Only.alloc {w w1 : World} {r r1 : Option Nat} (h : Only w w1 r r1) (o : Obj) : Only w (w1.alloc o) r r1 :=
  h.trans ⟨⟨rfl, rfl, rfl, by simp, fun i hi _ => Below.heap_alloc _ _ _ hi⟩, .inl rfl⟩
theorem Only.app {w w1 w2 : World} {r r1 r2 : Option Nat} (h : Only w w1 r r1) (k : w1.grownBy w2 r1) (p : r2 = r1 ∨ r2 = some w1.heap.size) : Only w w2 r r2 :=
  h.trans ⟨k, p.imp id fun e => ⟨_, e, Nat.le_refl _⟩⟩
theorem Only.below {w w' : World} {v v' : Value} {B n : Nat} {xs : List Value} (h : Only w w' v.ownBlock v'.ownBlock) (ho : w.ownsRow B 5 1 v n xs) (hB : B ≤ w.heap.size) : Below B w w' :=
  (Below.refl _ _).grown h.grown hB fun k hk => (ho.lt k hk).1
theorem Only.cell {w w' : World} {r r' : Option Nat} {a : Addr} {u : Value} (h : Only w w' r r') (hc : w.cell? a = some u) (hne : some a.block ≠ r) : w'.cell? a = some u := h.grown.cell hc hne

set_option maxHeartbeats 2000000 in
theorem putInt_any (v : Value) (n : Nat) (l : List UInt8) (x : Int) (B : Nat) (w : World) (hown : w.ownsRow B 5 1 v n (l.map u8v)) (hB : B ≤ w.heap.size) (h1 : -9223372036854775808 ≤ x) (h2 : x ≤ 9223372036854775807) (hn : n ≤ 1099511627776) :
    Calls Tryz.prog 39 #[v, .int .i64 x] w fun e w' => ∃ v', e = .returned v' ∧ w'.ownsRow B 5 1 v' (n + (encInt x).length) ((l ++ encInt x).map u8v) ∧ Only w w' v.ownBlock v'.ownBlock := by
  obtain ⟨i0, hi0, hz0, hz1, hz2⟩ := info_parts info5
  have HO : Hid (w.ownsRow B 5 1 v n (l.map u8v)) := hown
  have HZ : Hid (encInt x = vint (zig x)) := rfl
  clear hown
  go_enter Tryz.func39, Tryz.ntmps39
  go_wp2
  rw [zig_bits x h1 h2]
  have hz := zig_lt x h1 h2
  have hl10 := encInt_len x h1 h2
  rw [HZ.out] at hl10
  generalize zig x = z0 at *
  go_loopw [0, 5] (fun v1 u w' => ∃ (y : Nat) (d : List UInt8), u = .int .u64 y ∧ y < 18446744073709551616 ∧ d ++ vint y = vint z0 ∧ w'.ownsRow B 5 1 v1 (n + d.length) ((l ++ d).map u8v) ∧ Only w w' v.ownBlock v1.ownBlock ∧ B ≤ w'.heap.size) (fun _ u _ => (intOf u).toNat)
  case atStart => exact ⟨z0, [], rfl, hz, rfl, by simpa using HO.out, Only.refl _ _, hB⟩
  case round =>
    obtain ⟨y, d, rfl, hy, hd, hown, hb, hsz⟩ := hrel
    have HW : Hid (wr.ownsRow B 5 1 u0 (n + d.length) ((l ++ d).map u8v)) := hown
    have HB : Hid (Only w wr v.ownBlock u0.ownBlock) := hb
    have HD : Hid (d ++ vint y = vint z0) := hd
    have hdl : d.length ≤ 10 := by
      have := congrArg List.length hd
      rw [List.length_append] at this
      omega
    clear hown hb hd HO
    by_cases h128 : y < 128
    · have hyi : (y : Int) < 128 := by omega
      have hy0 : (0 : Int) ≤ (y : Int) := by omega
      obtain ⟨c, hc⟩ : ∃ c, c = UInt8.ofNat y := ⟨_, rfl⟩
      have HV : Hid (vint y = [c]) := by rw [hc]; exact vint_lt h128
      have HC : Hid (u8v c = .int .u8 (y : Int)) := by rw [hc]; exact u8v_ofNat y (by omega)
      clear hc
      go_wp2_with (first
        | (at_builtin; refine wpList_append_own_at _ rfl _ _ 50 rfl B 5 i0 (.int .u8 0) 1 1 Tryz.underlying50 hi0 hz0 hz1 hz2 rfl (by decide) _ _ _ rfl (HW.out.alloc _) ⟨wr.heap.size, 0, none⟩ 1 1 [u8v c] rfl rfl ?c1 ?c2 ?c3 ?c4 ?c5 ?_))
      case c1 =>
        intro j u hj
        match j, hj with
        | 0, hj => simp at hj; subst hj; rw [HC.out]; simp [Addr.add]
      case c2 => intro u hu; simp at hu; subst hu; rfl
      case c3 => unfold maxLen; omega
      case c4 => omega
      case c5 => simp; omega
      · intro v2 w5 hown' hgrow _ hat
        have hB5 : Only w w5 v.ownBlock v2.ownBlock := (HB.out.alloc _).app hgrow (by simpa using hat)
        go_wp2
        go_ret
        refine ⟨v2, rfl, ?_, hB5⟩
        rw [HZ.out, ← HD.out, HV.out, List.length_append, ← Nat.add_assoc]
        simpa using hown'
    · have hyi : (128 : Int) ≤ (y : Int) := by omega
      obtain ⟨c, hc⟩ : ∃ c, c = UInt8.ofNat (y % 128 + 128) := ⟨_, rfl⟩
      have HV : Hid (vint y = c :: vint (y / 128)) := by rw [hc]; exact vint_ge h128
      have HC : Hid (u8v c = .int .u8 ((y % 128 + 128 : Nat) : Int)) := by rw [hc]; exact u8v_ofNat _ (by omega)
      clear hc
      have eo := or128 y
      go_wp2_with (first
        | (at_builtin; refine wpList_append_own_at _ rfl _ _ 50 rfl B 5 i0 (.int .u8 0) 1 1 Tryz.underlying50 hi0 hz0 hz1 hz2 rfl (by decide) _ _ _ rfl (HW.out.alloc _) ⟨wr.heap.size, 0, none⟩ 1 1 [u8v c] rfl rfl ?c1 ?c2 ?c3 ?c4 ?c5 ?_))
      case c1 =>
        intro j u hj
        match j, hj with
        | 0, hj => simp at hj; subst hj; rw [HC.out]; simp [Addr.add]
      case c2 => intro u hu; simp at hu; subst hu; rfl
      case c3 => unfold maxLen; omega
      case c4 => omega
      case c5 => simp; omega
      · intro v2 w5 hown' hgrow _ hat
        have hB5 : Only w w5 v.ownBlock v2.ownBlock := (HB.out.alloc _).app hgrow (by simpa using hat)
        have HB5 : Hid (Only w w5 v.ownBlock v2.ownBlock) := hB5
        have HO5 : Hid (w5.ownsRow B 5 1 v2 (n + (d ++ [c]).length) ((l ++ (d ++ [c])).map u8v)) := by
          unfold Hid
          rw [List.length_append, ← Nat.add_assoc]
          simpa using hown'
        have hs5 : B ≤ w5.heap.size := Nat.le_trans hB hB5.grown.size
        clear hown' hgrow hat hB5 eo HC
        go_wp2
        go_roundw
        case rel =>
          refine ⟨y / 128, _, by go_num, by omega, ?_, HO5.out, HB5.out, hs5⟩
          rw [List.append_assoc, ← HD.out, HV.out]; rfl
        case measure => simp [intOf]; omega
end Go.Proofs.YtdbboaebigpkoaaGreatDoor.Wr
namespace Go.Proofs.YtdbboaebigpkoaaGreatDoor.Wr
open Go.RowKit
set_option linter.unusedVariables false
set_option maxRecDepth 100000
theorem zig_ref (x : Int) (hx : x < 0) (h1 : -9223372036854775808 ≤ x) : bits .xor .u64 IntKind.u64.max (IntKind.u64.wrap (IntKind.u64.wrap x * 2)) = ((zig x : Nat) : Int) := by
  rw [wrap64u, wrap64u]
  have e1 : x % 18446744073709551616 * 2 % 18446744073709551616 = (((18446744073709551616 + 2 * x).toNat : Nat) : Int) := by omega
  have e2 : IntKind.u64.max = ((18446744073709551615 : Nat) : Int) := by decide
  rw [e1, e2, u64_xor_nat _ _ (by decide) (by omega), Nat.xor_comm, xor_ones _ (by omega), zig_neg x hx]
  omega

end Go.Proofs.YtdbboaebigpkoaaGreatDoor.Wr
namespace Go.Proofs.YtdbboaebigpkoaaGreatDoor.Wr
open Go.RowKit Go.Lib
set_option linter.unusedVariables false
set_option maxRecDepth 100000

/-- A value. -/
structure V where
  k : Int
  n : Int
  s : ByteArray
def kb (k : Int) : UInt8 := UInt8.ofNat (k % 256).toNat
def encTail (v : V) : List UInt8 := if v.k = 1 ∨ v.k = 2 then encInt v.n else if v.k = 3 then encInt (v.s.size : Int) ++ v.s.data.toList else []
def encVal (v : V) : List UInt8 := kb v.k :: encTail v
theorem u8v_kb (k : Int) : u8v (kb k) = .int .u8 (k % 256) := by
  unfold kb; rw [u8v_ofNat _ (by omega)]; congr 1; omega
theorem strCells_eq (s : ByteArray) : strCells s = s.data.toList.map u8v := by
  rfl

theorem putCount_any (v : Value) (n : Nat) (l : List UInt8) (x : Int) (B : Nat) (w : World) (hown : w.ownsRow B 5 1 v n (l.map u8v)) (hB : B ≤ w.heap.size) (h1 : -9223372036854775808 ≤ x) (h2 : x ≤ 9223372036854775807) (hn : n ≤ 1099511627776) :
    Calls Tryz.prog 38 #[v, .int .i64 x] w fun e w' => ∃ v', e = .returned v' ∧ w'.ownsRow B 5 1 v' (n + (encInt x).length) ((l ++ encInt x).map u8v) ∧ Only w w' v.ownBlock v'.ownBlock := by
  have HO : Hid (w.ownsRow B 5 1 v n (l.map u8v)) := hown
  clear hown
  go_enter Tryz.func38, Tryz.ntmps38
  go_wp2_with fail
  refine (putInt_any v n l x B w HO.out hB h1 h2 hn).mono ?_
  rintro e w1 ⟨v', rfl, ho, hon⟩
  have H1 : Hid (w1.ownsRow B 5 1 v' (n + (encInt x).length) ((l ++ encInt x).map u8v)) := ho
  have H2 : Hid (Only w w1 v.ownBlock v'.ownBlock) := hon
  clear ho hon HO
  go_wp2
  go_ret
  exact ⟨v', rfl, H1.out, H2.out⟩

theorem only_ne {w w' : World} {r r' : Option Nat} {g : Nat} (h : Only w w' r r') (hg : g < w.heap.size) (hne : some g ≠ r) : some g ≠ r' := by
  rcases h.place with h1 | ⟨g', h1, h2⟩
  · rw [h1]; exact hne
  · rw [h1]; intro e; have := Option.some.inj e; omega
/-- 'append(b, s...)' at a step of a region that draws its order. -/
theorem step_append_own_string {P : Program} (w : World) {ops : Array Oper} {o : Oper} {a : Act} {K : Act → World → Prop} {Q : Exit → Act → World → Prop} {E : Prop} (hgd : o.guard = none) (sl x : Operand) (t u : TypeId)
    (ho : o.op = .call { callee := .builtin .append, args := #[sl, x], argTypes := #[t, u] })
    (base : Nat) (e : TypeId) (i : TypeInfo) (ht : P.underlying t = some (.slice e)) (hu : P.underlying u = some .string) (hi : P.info? e = some i) (hz : i.zero = some (.int .u8 0))
    (hsize : i.size = 1) (hby : i.bytes = 1)
    (v : Value) (n : Nat) (xs : List Value) (hs : a.eval sl = v) (hown : w.ownsRow base e 1 v n xs) (s : ByteArray) (hx : a.eval x = .string s)
    (h63 : n + s.size ≤ maxLen) (hbytes : n + s.size ≤ 140737488355328) (hbase : base ≤ w.heap.size)
    (h : ∀ v' w', w'.ownsRow base e 1 v' (n + s.size) (xs ++ strCells s) → w.grownBy w' v.ownBlock → (v' = .slice none 0 0 ↔ v = .slice none 0 0 ∧ s.size = 0) → K (a.put o.dst v') w') :
    if Region.wanted o (yielded ops a.tmps) = true then Oper.wp P o a w K Q else E := by
  have hw : Region.wanted o (yielded ops a.tmps) = true := by simp [Region.wanted, hgd]
  rw [if_pos hw]
  obtain ⟨v', w', hr, h2, h3, h4⟩ := run_append_own_string (P := P) w base t u o.type e i ht hu hi hz hsize hby v n xs hown s h63 hbytes hbase
  unfold Oper.wp execOp
  simp only [ho, resolve, invoke, builtin, Sem.run_bind, Sem.run_pure, Result.andThen_ok, List.map_toArray, List.map_cons, List.map_nil, hs, hx, hr]
  exact h v' w' h2 h3 h4

set_option maxHeartbeats 2000000 in
theorem putValue_any (v : Value) (n : Nat) (l : List UInt8) (x : V) (B : Nat) (w : World) (hown : w.ownsRow B 5 1 v n (l.map u8v)) (hB : B ≤ w.heap.size) (h1 : -9223372036854775808 ≤ x.n) (h2 : x.n ≤ 9223372036854775807) (hn : n ≤ 549755813888) (hs : x.s.size ≤ 549755813888) :
    Calls Tryz.prog 40 #[v, .agg #[.int .i64 x.k, .int .i64 x.n, .string x.s]] w fun e w' => ∃ v', e = .returned v' ∧ w'.ownsRow B 5 1 v' (n + (encVal x).length) ((l ++ encVal x).map u8v) ∧ Below B w w' := by
  obtain ⟨i0, hi0, hz0, hz1, hz2⟩ := info_parts info5
  have HO : Hid (w.ownsRow B 5 1 v n (l.map u8v)) := hown
  have HC : Hid (u8v (kb x.k) = .int .u8 (x.k % 256)) := u8v_kb x.k
  have HE : Hid (encVal x = kb x.k :: encTail x) := rfl
  have HT : Hid (encTail x = if x.k = 1 ∨ x.k = 2 then encInt x.n else if x.k = 3 then encInt (x.s.size : Int) ++ x.s.data.toList else []) := rfl
  clear hown
  generalize kb x.k = c at *
  go_enter Tryz.func40, Tryz.ntmps40
  go_wp2_with (first
    | (at_builtin; refine wpList_append_own_at _ rfl _ _ 50 rfl B 5 i0 (.int .u8 0) 1 1 Tryz.underlying50 hi0 hz0 hz1 hz2 rfl (by decide) _ _ _ rfl ((HO.out.alloc _).alloc _) ⟨w.heap.size + 1, 0, none⟩ 1 1 [u8v c] rfl rfl ?c1 ?c2 ?c3 ?c4 ?c5 ?_))
  case c1 =>
    intro j u hj
    match j, hj with
    | 0, hj => simp at hj; subst hj; rw [HC.out]; simp [Addr.add]
  case c2 => intro u hu; simp at hu; subst hu; rfl
  case c3 => unfold maxLen; omega
  case c4 => omega
  case c5 => simp; omega
  · intro v3 w3 hown' hgrow _ hat
    have hlt : ∀ k, v.ownBlock = some k → k < w.heap.size := fun k hk => (HO.out.lt k hk).2
    have hne : some w.heap.size ≠ v.ownBlock := fun e => by have := hlt _ e.symm; omega
    have c0 : w3.cell? ⟨w.heap.size, 0, none⟩ = some (.int .i64 x.k) := hgrow.cell (by simp) hne
    have c1 : w3.cell? ⟨w.heap.size, 1, none⟩ = some (.int .i64 x.n) := hgrow.cell (by simp) hne
    have c2 : w3.cell? ⟨w.heap.size, 2, none⟩ = some (.string x.s) := hgrow.cell (by simp) hne
    have H3 : Hid (w3.ownsRow B 5 1 v3 (n + 1) ((l ++ [c]).map u8v)) := by unfold Hid; simpa using hown'
    have hon : Only w w3 v.ownBlock v3.ownBlock := (((Only.refl _ _).alloc _).alloc _).app hgrow (by simpa using hat)
    have HB3 : Hid (Below B w w3) := hon.below HO.out hB
    have hne3 : some w.heap.size ≠ v3.ownBlock := by
      rcases hat with h | h
      · rw [h]; exact hne
      · rw [h]; simp; omega
    have hlt3 : w.heap.size < w3.heap.size := World.block_lt_of_cell? _ _ c0
    have hB3 : B ≤ w3.heap.size := Nat.le_trans hB hon.grown.size
    clear hown' hgrow hat hon HO
    by_cases hk1 : x.k = 1 ∨ x.k = 2
    · have HT' : Hid (encTail x = encInt x.n) := by rw [Hid, HT.out, if_pos hk1]
      rcases hk1 with hk | hk
      all_goals
        rw [hk] at c0
        go_wp2_with fail
        refine (putInt_any v3 (n + 1) (l ++ [c]) x.n B w3 H3.out hB3 h1 h2 (by omega)).mono ?_
        rintro e w5 ⟨v5, rfl, ho5, hon5⟩
        have H5 : Hid (w5.ownsRow B 5 1 v5 (n + 1 + (encInt x.n).length) ((l ++ [c] ++ encInt x.n).map u8v)) := ho5
        have HB5 : Hid (Below B w w5) := HB3.out.trans (hon5.below H3.out hB3)
        clear ho5 hon5
        go_wp2
        go_ret
        refine ⟨v5, rfl, ?_, HB5.out⟩
        rw [HE.out, HT'.out]
        have := H5.out
        rw [List.append_assoc] at this
        rw [List.length_cons, Nat.add_comm (encInt x.n).length 1, ← Nat.add_assoc]
        exact this
    · by_cases hk3 : x.k = 3
      · have HT' : Hid (encTail x = encInt (x.s.size : Int) ++ x.s.data.toList) := by rw [Hid, HT.out, if_neg hk1, if_pos hk3]
        have h10 := encInt_len (x.s.size : Int) (by omega) (by omega)
        rw [hk3] at c0
        go_wp2_with fail
        go_region_held3 (fun w' => w'.cell? ⟨w.heap.size, 2, none⟩ = some (.string x.s))
          (first | go_keep | exact Only.cell ‹_› ‹_› hne3 | exact World.grownBy.cell hg6 ‹_› hne5)
          (first
            | (go_at_call 38; refine (putCount_any v3 (n + 1) (l ++ [c]) (x.s.size : Int) B _ (by exact H3.out) (by exact hB3) (by omega) (by omega) (by omega)).mono ?_; rintro e w5 ⟨v5, rfl, ho5, hon5⟩; have hne5 := only_ne hon5 (by exact hlt3) hne3)
            | (refine step_append_own_string _ (by rfl) _ _ 50 9 (by rfl) B 5 i0 Tryz.underlying50 Tryz.underlying9 hi0 hz0 hz1 hz2 v5 _ _ (by rfl) (by exact ho5) x.s (by rfl) (by unfold maxLen; omega) (by omega) (by exact Nat.le_trans hB3 hon5.grown.size) ?_; intro v6 w6 ho6 hg6 _))
        have hb5 : Below B w w5 := HB3.out.drew.trans (hon5.below (by exact H3.out) (by exact hB3))
        have HB6 : Hid (Below B w w6) := hb5.grown hg6 (Nat.le_trans hB hb5.size) (fun j hj => (ho5.lt j hj).1)
        have H6 : Hid (w6.ownsRow B 5 1 v6 (n + (encVal x).length) ((l ++ encVal x).map u8v)) := by
          unfold Hid
          rw [HE.out, HT'.out]
          have e1 : (l ++ c :: (encInt (x.s.size : Int) ++ x.s.data.toList)).map u8v = (l ++ [c] ++ encInt (x.s.size : Int)).map u8v ++ strCells x.s := by rw [strCells_eq]; simp
          have e2 : n + (c :: (encInt (x.s.size : Int) ++ x.s.data.toList)).length = n + 1 + (encInt (x.s.size : Int)).length + x.s.size := by
            rw [List.length_cons, List.length_append, show x.s.data.toList.length = x.s.size by simp]; omega
          rw [e1, e2]
          exact ho6
        clear ho5 hon5 hne5 ho6 hg6 hb5
        go_wp2
        go_ret
        exact ⟨v6, rfl, H6.out, HB6.out⟩
      · have HT' : Hid (encTail x = []) := by rw [Hid, HT.out, if_neg hk1, if_neg hk3]
        have hk1' : ¬ x.k = 1 := fun h => hk1 (.inl h)
        have hk2' : ¬ x.k = 2 := fun h => hk1 (.inr h)
        go_wp2
        go_ret
        refine ⟨v3, rfl, ?_, HB3.out⟩
        rw [HE.out, HT'.out]
        exact H3.out

theorem vint_pos (u : Nat) : 0 < (vint u).length := by
  by_cases h : u < 128
  · rw [vint_lt h]; simp
  · rw [vint_ge h]; simp
theorem encInt_pos (x : Int) : 0 < (encInt x).length := vint_pos _

end Go.Proofs.YtdbboaebigpkoaaGreatDoor.Wr
namespace Go.Proofs.YtdbboaebigpkoaaGreatDoor.Wr
open Go.RowKit
set_option linter.unusedVariables false
set_option maxRecDepth 100000

structure Rw where
  t : Int
  vs : List V
def encRow (r : Rw) : List UInt8 := encInt r.t ++ (encInt (r.vs.length : Int) ++ r.vs.flatMap encVal)
def encRows (rs : List Rw) : List UInt8 := encInt (rs.length : Int) ++ rs.flatMap encRow

/-- Values lie in memory where the slice 'a' begins. -/
def VLies (w : World) (a : Option Addr) (vs : List V) : Prop :=
  ∀ i (hi : i < vs.length), ∃ b off, a = some ⟨b, off, none⟩ ∧ w.cell? ⟨b, off + i * 3, none⟩ = some (.int .i64 vs[i].k) ∧ w.cell? ⟨b, off + i * 3 + 1, none⟩ = some (.int .i64 vs[i].n) ∧ w.cell? ⟨b, off + i * 3 + 2, none⟩ = some (.string vs[i].s)
theorem VLies.later {w wx : World} {a : Option Addr} {vs : List V} (h : VLies w a vs) (hb : Below w.heap.size w wx) : VLies wx a vs := fun i hi => by
  obtain ⟨b, off, e, h1, h2, h3⟩ := h i hi
  exact ⟨b, off, e, cell_later hb h1, cell_later hb h2, cell_later hb h3⟩
/-- Rows lie in memory where the slice 'a' begins. -/
def RLies (w : World) (a : Option Addr) (rs : List Rw) : Prop :=
  ∀ i (hi : i < rs.length), ∃ b off av cv, a = some ⟨b, off, none⟩ ∧ w.cell? ⟨b, off + i * 2, none⟩ = some (.int .i64 rs[i].t) ∧ w.cell? ⟨b, off + i * 2 + 1, none⟩ = some (.slice av rs[i].vs.length cv) ∧ VLies w av rs[i].vs
theorem RLies.later {w wx : World} {a : Option Addr} {rs : List Rw} (h : RLies w a rs) (hb : Below w.heap.size w wx) : RLies wx a rs := fun i hi => by
  obtain ⟨b, off, av, cv, e, h1, h2, h3⟩ := h i hi
  exact ⟨b, off, av, cv, e, cell_later hb h1, cell_later hb h2, h3.later hb⟩
def GoodV (v : V) : Prop := -9223372036854775808 ≤ v.n ∧ v.n ≤ 9223372036854775807 ∧ v.s.size ≤ 549755813888
def GoodR (r : Rw) : Prop := -9223372036854775808 ≤ r.t ∧ r.t ≤ 9223372036854775807 ∧ r.vs.length ≤ 549755813888 ∧ ∀ v ∈ r.vs, GoodV v

/-- Bytes in a row of one's own. -/
def OL (w : World) (B : Nat) (v : Value) (l : List UInt8) : Prop := w.ownsRow B 5 1 v l.length (l.map u8v)
theorem OL.later {w w' : World} {B : Nat} {v : Value} {l : List UInt8} (h : OL w B v l) (hb : Below w.heap.size w w') : OL w' B v l := own_later h hb

theorem putInt_ol (v : Value) (l : List UInt8) (x : Int) (B : Nat) (w : World) (hown : OL w B v l) (hB : B ≤ w.heap.size) (h1 : -9223372036854775808 ≤ x) (h2 : x ≤ 9223372036854775807) (hn : l.length ≤ 1099511627776) :
    Calls Tryz.prog 39 #[v, .int .i64 x] w fun e w' => ∃ v', e = .returned v' ∧ OL w' B v' (l ++ encInt x) ∧ Only w w' v.ownBlock v'.ownBlock := by
  refine (putInt_any v l.length l x B w hown hB h1 h2 hn).mono ?_
  rintro e w' ⟨v', rfl, h, k⟩
  exact ⟨v', rfl, by unfold OL; rw [List.length_append]; exact h, k⟩
theorem putCount_ol (v : Value) (l : List UInt8) (x : Int) (B : Nat) (w : World) (hown : OL w B v l) (hB : B ≤ w.heap.size) (h1 : -9223372036854775808 ≤ x) (h2 : x ≤ 9223372036854775807) (hn : l.length ≤ 1099511627776) :
    Calls Tryz.prog 38 #[v, .int .i64 x] w fun e w' => ∃ v', e = .returned v' ∧ OL w' B v' (l ++ encInt x) ∧ Only w w' v.ownBlock v'.ownBlock := by
  refine (putCount_any v l.length l x B w hown hB h1 h2 hn).mono ?_
  rintro e w' ⟨v', rfl, h, k⟩
  exact ⟨v', rfl, by unfold OL; rw [List.length_append]; exact h, k⟩
theorem putValue_ol (v : Value) (l : List UInt8) (x : V) (B : Nat) (w : World) (hown : OL w B v l) (hB : B ≤ w.heap.size) (hx : GoodV x) (hn : l.length ≤ 549755813888) :
    Calls Tryz.prog 40 #[v, .agg #[.int .i64 x.k, .int .i64 x.n, .string x.s]] w fun e w' => ∃ v', e = .returned v' ∧ OL w' B v' (l ++ encVal x) ∧ Below B w w' := by
  refine (putValue_any v l.length l x B w hown hB hx.1 hx.2.1 hn hx.2.2).mono ?_
  rintro e w' ⟨v', rfl, h, k⟩
  exact ⟨v', rfl, by unfold OL; rw [List.length_append]; exact h, k⟩
theorem take_flat {α : Type} (f : α → List UInt8) (l : List α) (k : Nat) (hk : k < l.length) : (l.take (k + 1)).flatMap f = (l.take k).flatMap f ++ f l[k] := by
  rw [List.take_succ_eq_append_getElem hk, List.flatMap_append]; simp
theorem flat_le {α : Type} (f : α → List UInt8) (l : List α) (k : Nat) : ((l.take k).flatMap f).length ≤ (l.flatMap f).length := by
  have h : l.flatMap f = (l.take k).flatMap f ++ (l.drop k).flatMap f := by rw [← List.flatMap_append, List.take_append_drop]
  rw [h, List.length_append]; omega
theorem flat_lt {α : Type} (f : α → List UInt8) (l : List α) (k : Nat) (hk : k < l.length) : ((l.take k).flatMap f).length + (f l[k]).length ≤ (l.flatMap f).length := by
  have := flat_le f l (k + 1)
  rw [take_flat f l k hk, List.length_append] at this
  exact this

set_option maxHeartbeats 4000000 in
theorem putRows_any (w0 w : World) (a : Option Addr) (cap : Nat) (rs : List Rw) (v : Value) (l : List UInt8) (hl : RLies w0 a rs) (hg : ∀ r ∈ rs, GoodR r) (hr : rs.length ≤ 549755813888) (hb0 : Below w0.heap.size w0 w) (hown : OL w w0.heap.size v l) (hlen : l.length + (encRows rs).length ≤ 549755813888) :
    Calls Tryz.prog 26 #[v, .slice a rs.length cap] w fun e w' => ∃ v', e = .returned v' ∧ OL w' w0.heap.size v' (l ++ encRows rs) ∧ Below w0.heap.size w w' := by
  have HL : Hid (RLies w0 a rs) := hl
  have HG : Hid (∀ r ∈ rs, GoodR r) := hg
  have HO : Hid (OL w w0.heap.size v l) := hown
  have HB0 : Hid (Below w0.heap.size w0 w) := hb0
  have hs0 := hb0.size
  have HE : Hid (encRows rs = encInt (rs.length : Int) ++ rs.flatMap encRow) := rfl
  have hE : (encRows rs).length = (encInt (rs.length : Int)).length + (rs.flatMap encRow).length := by rw [HE.out, List.length_append]
  clear hl hg hown hb0
  go_enter Tryz.func26, Tryz.ntmps26
  go_wp2_with fail
  refine (putCount_ol v l (rs.length : Int) w0.heap.size w HO.out hs0 (by omega) (by omega) (by omega)).mono ?_
  rintro e w1 ⟨v1, rfl, ho1, hon1⟩
  have HB1 : Hid (Below w0.heap.size w w1) := hon1.below HO.out hs0
  have H1 : Hid (OL w1 w0.heap.size v1 (l ++ encInt (rs.length : Int))) := ho1
  clear ho1 hon1 HO
  go_wp2
  go_loopw [0, 15] (fun v i w' => ∃ k : Nat, k ≤ rs.length ∧ i = .int .i64 k ∧ OL w' w0.heap.size v (l ++ encInt (rs.length : Int) ++ (rs.take k).flatMap encRow) ∧ Below w0.heap.size w w' ∧ w0.heap.size ≤ w'.heap.size) (fun _ i _ => rs.length - (intOf i).toNat)
  case atStart => exact ⟨0, Nat.zero_le _, rfl, by simpa using H1.out, HB1.out, Nat.le_trans hs0 HB1.out.size⟩
  case round =>
    obtain ⟨k, hk, rfl, ho, hb, hsz⟩ := hrel
    have HBK : Hid (Below w0.heap.size w wr) := hb
    have HOK : Hid (OL wr w0.heap.size u0 (l ++ encInt (rs.length : Int) ++ (rs.take k).flatMap encRow)) := ho
    have hlt0 : ∀ g, u0.ownBlock = some g → g < wr.heap.size := fun g h => (ho.lt g h).2
    clear ho hb H1 HB1
    by_cases hlt : k < rs.length
    · obtain ⟨b, off, av, cv, rfl, c1, c2, hv⟩ := HL.out k hlt
      replace c1 := cell_later (HB0.out.trans HBK.out) c1
      replace c2 := cell_later (HB0.out.trans HBK.out) c2
      have HV : Hid (VLies w0 av rs[k].vs) := hv
      have HGK : Hid (GoodR rs[k]) := HG.out _ (List.getElem_mem hlt)
      have hfl := flat_lt encRow rs k hlt
      have HF : Hid ((rs.take (k + 1)).flatMap encRow = (rs.take k).flatMap encRow ++ encRow rs[k]) := take_flat encRow rs k hlt
      have HER : Hid (encRow rs[k] = encInt rs[k].t ++ (encInt (rs[k].vs.length : Int) ++ rs[k].vs.flatMap encVal)) := rfl
      have hER : (encRow rs[k]).length = (encInt rs[k].t).length + ((encInt (rs[k].vs.length : Int)).length + (rs[k].vs.flatMap encVal).length) := by rw [HER.out, List.length_append, List.length_append]
      have ht := HGK.out.1
      have ht2 := HGK.out.2.1
      have hvl := HGK.out.2.2.1
      have hki : (k : Int) < (rs.length : Int) := by omega
      clear hv
      have HGV : Hid (∀ v ∈ rs[k].vs, GoodV v) := HGK.out.2.2.2
      obtain ⟨L, hL⟩ : ∃ L, L = l ++ encInt (rs.length : Int) ++ (rs.take k).flatMap encRow := ⟨_, rfl⟩
      have hLl : L.length = l.length + (encInt (rs.length : Int)).length + ((rs.take k).flatMap encRow).length := by rw [hL, List.length_append, List.length_append]
      have HLN : Hid (l ++ encInt (rs.length : Int) ++ (rs.take (k + 1)).flatMap encRow = L ++ encInt rs[k].t ++ encInt (rs[k].vs.length : Int) ++ rs[k].vs.flatMap encVal) := by
        unfold Hid
        rw [HF.out, HER.out, hL]
        simp only [List.append_assoc]
      rw [← hL] at HOK
      have hne0 : some wr.heap.size ≠ u0.ownBlock := fun e => by have := hlt0 _ e.symm; omega
      clear HF HER HGK hL
      generalize rs[k].vs = vs at *
      generalize rs[k].t = T at *
      go_wp2_with fail
      refine (putInt_ol u0 L T w0.heap.size _ (HOK.out.later (bel1 wr _)) (by simp; omega) ht ht2 (by omega)).mono ?_
      rintro e w2 ⟨v2, rfl, ho2, hon2⟩
      have d2 : w2.cell? ⟨wr.heap.size, 1, none⟩ = some (.slice av vs.length cv) := hon2.cell (by simp) hne0
      have H2 : Hid (OL w2 w0.heap.size v2 (L ++ encInt T)) := ho2
      have HB2 : Hid (Below w0.heap.size w w2) := (HBK.out.alloc hsz _).trans (hon2.below (HOK.out.later (bel1 wr _)) (by simp; omega))
      have hne2 : some wr.heap.size ≠ v2.ownBlock := only_ne hon2 (by simp) hne0
      have hs2 : w0.heap.size ≤ w2.heap.size := Nat.le_trans hs0 HB2.out.size
      have hl2 : (L ++ encInt T).length = L.length + (encInt T).length := List.length_append
      clear ho2 hon2 hne0 HOK
      go_wp2_with fail
      refine (putCount_ol v2 (L ++ encInt T) (vs.length : Int) w0.heap.size w2 H2.out hs2 (by omega) (by omega) (by omega)).mono ?_
      rintro e w3 ⟨v3, rfl, ho3, hon3⟩
      have d3 : w3.cell? ⟨wr.heap.size, 1, none⟩ = some (.slice av vs.length cv) := hon3.cell d2 hne2
      have H3 : Hid (OL w3 w0.heap.size v3 (L ++ encInt T ++ encInt (vs.length : Int))) := ho3
      have HB3 : Hid (Below w0.heap.size w w3) := HB2.out.trans (hon3.below H2.out hs2)
      have hs3 : w0.heap.size ≤ w3.heap.size := Nat.le_trans hs0 HB3.out.size
      have hl3 : (L ++ encInt T ++ encInt (vs.length : Int)).length = (L ++ encInt T).length + (encInt (vs.length : Int)).length := List.length_append
      clear ho3 hon3 hne2 H2 HB2 d2
      generalize L ++ encInt T ++ encInt (vs.length : Int) = M at *
      go_wp2
      go_loopw [0, 31] (fun v i w' => ∃ j : Nat, j ≤ vs.length ∧ i = .int .i64 j ∧ OL w' w0.heap.size v (M ++ (vs.take j).flatMap encVal) ∧ Below w0.heap.size w w' ∧ w0.heap.size ≤ w'.heap.size) (fun _ i _ => vs.length - (intOf i).toNat)
      case atStart => exact ⟨0, Nat.zero_le _, rfl, by simpa using H3.out, HB3.out, hs3⟩
      case round =>
        obtain ⟨j, hj, rfl, ho, hb, hsz'⟩ := hrel
        have HBJ : Hid (Below w0.heap.size w wr) := hb
        have HOJ : Hid (OL wr w0.heap.size u0 (M ++ (vs.take j).flatMap encVal)) := ho
        clear ho hb H3 HB3
        by_cases hjt : j < vs.length
        · obtain ⟨b', off', rfl, e1, e2, e3⟩ := HV.out j hjt
          replace e1 := cell_later (HB0.out.trans HBJ.out) e1
          replace e2 := cell_later (HB0.out.trans HBJ.out) e2
          replace e3 := cell_later (HB0.out.trans HBJ.out) e3
          have hgv := HGV.out _ (List.getElem_mem hjt)
          have HGJ : Hid (GoodV vs[j]) := hgv
          have hji : (j : Int) < (vs.length : Int) := by omega
          have hfj := flat_lt encVal vs j hjt
          have hmj : (M ++ (vs.take j).flatMap encVal).length = M.length + ((vs.take j).flatMap encVal).length := List.length_append
          have HFJ : Hid (M ++ (vs.take (j + 1)).flatMap encVal = M ++ (vs.take j).flatMap encVal ++ encVal vs[j]) := by unfold Hid; rw [take_flat encVal vs j hjt, List.append_assoc]
          clear hgv
          go_wp2_with fail
          refine (putValue_ol u0 (M ++ (vs.take j).flatMap encVal) vs[j] w0.heap.size _ (HOJ.out.later (bel1 wr _)) (by simp; omega) HGJ.out (by omega)).mono ?_
          rintro e w5 ⟨v5, rfl, ho5, hb5⟩
          have H5 : Hid (OL w5 w0.heap.size v5 (M ++ (vs.take (j + 1)).flatMap encVal)) := by rw [Hid, HFJ.out]; exact ho5
          have HB5 : Hid (Below w0.heap.size w w5) := (HBJ.out.alloc hsz' _).trans hb5
          clear ho5 hb5 HOJ HFJ
          go_wp2
          go_roundw
          case rel => exact ⟨j + 1, by omega, by go_num, H5.out, HB5.out, Nat.le_trans hs0 HB5.out.size⟩
          case measure => simp [intOf]; omega
        · obtain rfl : j = vs.length := by omega
          have HE5 : Hid (OL wr w0.heap.size u0 (l ++ encInt (rs.length : Int) ++ (rs.take (k + 1)).flatMap encRow)) := by
            rw [Hid, HLN.out]
            have := HOJ.out
            rw [List.take_of_length_le (Nat.le_refl _)] at this
            exact this
          clear HOJ
          go_wp2
          go_roundw
          case rel => exact ⟨k + 1, by omega, by go_num, HE5.out, HBJ.out, hsz'⟩
          case measure => simp [intOf]; omega
    · obtain rfl : k = rs.length := by omega
      go_wp2
      go_ret
      refine ⟨u0, rfl, ?_, HBK.out⟩
      have := HOK.out
      rw [List.take_of_length_le (Nat.le_refl _), List.append_assoc, ← HE.out] at this
      exact this
end Go.Proofs.YtdbboaebigpkoaaGreatDoor.Wr
namespace Go.Proofs.YtdbboaebigpkoaaGreatDoor.Wr
open Go.RowKit
set_option linter.unusedVariables false
set_option maxRecDepth 100000

theorem OL.grown {w w' : World} {B : Nat} {v : Value} {l : List UInt8} {r : Option Nat} (h : OL w B v l) (hg : w.grownBy w' r) (hne : ∀ g, v.ownBlock = some g → some g ≠ r) : OL w' B v l := by
  refine ⟨h.1, ?_⟩
  rcases h.2 with h2 | ⟨g, cap, cur, h1, h2, h3, h4⟩
  · exact .inl h2
  · refine .inr ⟨g, cap, cur, h1, h2, ?_, h4⟩
    have hlt : g < w.heap.size := by
      rcases Nat.lt_or_ge g w.heap.size with h | h
      · exact h
      · rw [Array.getElem?_eq_none h] at h3; cases h3
    rw [hg.block g hlt (hne g (by rw [h1]; rfl))]; exact h3

/-- 'append(b, more...)': both rows are one's own. -/
theorem wpList_append_ol {w : World} {ops : Array Oper} {rest : List Oper} {o : Oper} {a : Act} {Q : Exit → Act → World → Prop} (hgd : o.guard = none) (s x : Operand)
    (ho : o.op = .call { callee := .builtin .append, args := #[s, x], argTypes := #[50, 50] })
    (B : Nat) (v : Value) (l : List UInt8) (hs : a.eval s = v) (hown : OL w B v l) (B2 : Nat) (v2 : Value) (E : List UInt8) (hx : a.eval x = v2) (h2 : OL w B2 v2 E) (hE : 0 < E.length)
    (hlen : l.length + E.length ≤ 140737488355328) (hbase : B ≤ w.heap.size)
    (h : ∀ v' w', OL w' B v' (l ++ E) → w.grownBy w' v.ownBlock → (v'.ownBlock = v.ownBlock ∨ v'.ownBlock = some w.heap.size) → wpList Tryz.prog ops Q rest (a.put o.dst v') w') : wpList Tryz.prog ops Q (o :: rest) a w := by
  obtain ⟨i0, hi0, hz0, hz1, hz2⟩ := info_parts info5
  obtain ⟨g5, cap5, hv2, hg5, hlt5⟩ := World.ownsRow.form h2 hE
  rw [hv2] at hx h2
  refine wpList_append_own_at _ hgd s x 50 ho B 5 i0 (.int .u8 0) 1 1 Tryz.underlying50 hi0 hz0 hz1 hz2 rfl (by decide) v l.length (l.map u8v) hs hown ⟨g5, 0, none⟩ E.length cap5 (E.map u8v) hx (by simp) ?_ ?_ (by unfold maxLen; omega) (by omega) hbase ?_
  · intro j u hj
    have hj' : j < E.length * 1 := by
      have := (List.getElem?_eq_some_iff.1 hj).1
      rw [List.length_map] at this
      omega
    rw [WideShapes.add_plain, Nat.zero_add, World.ownsRow.cellAt h2 j hj']
    exact hj
  · intro u hu; obtain ⟨z, _, rfl⟩ := List.mem_map.1 hu; rfl
  · intro v' w' h3 h4 _ h5
    refine h v' w' ?_ h4 h5
    unfold OL
    rw [List.length_append, List.map_append]
    exact h3

theorem encVal_pos (x : V) : 0 < (encVal x).length := by unfold encVal; simp

end Go.Proofs.YtdbboaebigpkoaaGreatDoor.Wr
namespace Go.Proofs.YtdbboaebigpkoaaGreatDoor.Wr
open Go.RowKit
set_option linter.unusedVariables false
set_option maxRecDepth 100000

/-- Is a value one? -/
def validV (v : V) : Bool :=
  if v.k = 0 then decide (v.n = 0) && decide (v.s.size = 0)
  else if v.k = 1 then decide (v.s.size = 0)
  else if v.k = 2 then decide (v.s.size = 0) && (decide (v.n = 0) || decide (v.n = 1))
  else if v.k = 3 then decide (v.n = 0) && decide (v.s.size ≤ 60)
  else false

theorem isE (s : ByteArray) : s.toList.isEmpty = decide (s.size = 0) := by
  rw [ByteArray.toList_eq]
  have h : s.data.toList.length = s.size := by simp
  cases hl : s.data.toList with
  | nil => rw [hl] at h; have h' : s.size = 0 := h.symm; rw [h']; rfl
  | cons a r => rw [hl] at h; have h' : s.size = r.length + 1 := h.symm; rw [h']; rfl

set_option maxHeartbeats 2000000 in
theorem refValid_any (x : V) (w : World) (hs : x.s.size ≤ maxLen) :
    Calls Tryz.prog 11 #[.agg #[.int .i64 x.k, .int .i64 x.n, .string x.s]] w fun e w' => e = .returned (.bool (validV x)) ∧ Below w.heap.size w w' := by
  unfold maxLen at hs
  obtain ⟨k, n, s⟩ := x
  simp only at hs
  show Calls Tryz.prog 11 #[.agg #[.int .i64 k, .int .i64 n, .string s]] w fun e w' => e = .returned (.bool (validV ⟨k, n, s⟩)) ∧ Below w.heap.size w w'
  have HS : Hid (s.toList.isEmpty = decide (s.size = 0)) := isE s
  have HV : Hid (validV ⟨k, n, s⟩ = (if k = 0 then decide (n = 0) && decide (s.size = 0)
    else if k = 1 then decide (s.size = 0)
    else if k = 2 then decide (s.size = 0) && (decide (n = 0) || decide (n = 1))
    else if k = 3 then decide (n = 0) && decide (s.size ≤ 60)
    else false)) := rfl
  by_cases h0 : k = 0
  · subst h0
    by_cases hn : n = 0
    · subst hn
      go_enter Tryz.func11, Tryz.ntmps11
      go_wp2
      go_ret
      exact ⟨ret_bool (by rw [HV.out, HS.out]; simp), bel1 _ _⟩
    · have hn' : (n == 0) = false := by simpa using hn
      go_enter Tryz.func11, Tryz.ntmps11
      go_wp2
      go_ret
      exact ⟨ret_bool (by rw [HV.out]; simp [hn]), bel1 _ _⟩
  · by_cases h1 : k = 1
    · subst h1
      go_enter Tryz.func11, Tryz.ntmps11
      go_wp2
      go_ret
      exact ⟨ret_bool (by rw [HV.out, HS.out]; simp), bel1 _ _⟩
    · by_cases h2 : k = 2
      · subst h2
        cases he : s.toList.isEmpty with
        | false =>
          rw [he] at HS
          go_enter Tryz.func11, Tryz.ntmps11
          go_wp2
          go_ret
          exact ⟨ret_bool (by rw [HV.out, ← HS.out]; simp), bel1 _ _⟩
        | true =>
          rw [he] at HS
          by_cases hn : n = 0
          · subst hn
            go_enter Tryz.func11, Tryz.ntmps11
            go_wp2
            go_ret
            exact ⟨ret_bool (by rw [HV.out, ← HS.out]; simp), bel1 _ _⟩
          · have hn' : (n == 0) = false := by simpa using hn
            go_enter Tryz.func11, Tryz.ntmps11
            go_wp2
            go_ret
            exact ⟨ret_bool (by rw [HV.out, ← HS.out]; simp [hn]; rfl), bel1 _ _⟩
      · by_cases h3 : k = 3
        · subst h3
          by_cases hn : n = 0
          · subst hn
            go_enter Tryz.func11, Tryz.ntmps11
            go_wp2
            go_ret
            exact ⟨ret_bool (by rw [HV.out]; simp; omega), bel1 _ _⟩
          · have hn' : (n == 0) = false := by simpa using hn
            go_enter Tryz.func11, Tryz.ntmps11
            go_wp2
            go_ret
            exact ⟨ret_bool (by rw [HV.out]; simp [hn]), bel1 _ _⟩
        · go_enter Tryz.func11, Tryz.ntmps11
          go_wp2
          go_ret
          exact ⟨ret_bool (by rw [HV.out]; simp [h0, h1, h2, h3]), bel1 _ _⟩

/-- Is a row one? -/
def validR (r : Rw) : Bool := r.vs.all validV && (decide (0 ≤ r.t) && decide (r.t ≤ 1099511627776) && decide (r.vs.length ≤ 8))

theorem take_all {α : Type} (p : α → Bool) (l : List α) (k : Nat) (hk : k < l.length) : (l.take (k + 1)).all p = ((l.take k).all p && p l[k]) := by
  rw [List.take_succ_eq_append_getElem hk, List.all_append]; simp
theorem all_false {α : Type} (p : α → Bool) (l : List α) (k : Nat) (hk : k < l.length) (h : p l[k] = false) : l.all p = false := by
  rw [List.all_eq_false]
  exact ⟨l[k], List.getElem_mem hk, by rw [h]; decide⟩

end Go.Proofs.YtdbboaebigpkoaaGreatDoor.Wr
namespace Go.Proofs.YtdbboaebigpkoaaGreatDoor.Wr
open Go.RowKit
set_option linter.unusedVariables false
set_option maxRecDepth 100000

theorem ofNat_inj {a b : Nat} (ha : a < 256) (hb : b < 256) (h : UInt8.ofNat a = UInt8.ofNat b) : a = b := by
  have := congrArg UInt8.toNat h
  rw [UInt8.toNat_ofNat', UInt8.toNat_ofNat', Nat.mod_eq_of_lt ha, Nat.mod_eq_of_lt hb] at this
  exact this

theorem vint_pf (u v : Nat) (r s : List UInt8) (h : vint u ++ r = vint v ++ s) : u = v ∧ r = s := by
  induction u using Nat.strongRecOn generalizing v with
  | ind u ih =>
    by_cases hu : u < 128
    · by_cases hv : v < 128
      · rw [vint_lt hu, vint_lt hv] at h
        simp only [List.cons_append, List.nil_append, List.cons.injEq] at h
        exact ⟨ofNat_inj (by omega) (by omega) h.1, h.2⟩
      · rw [vint_lt hu, vint_ge hv] at h
        simp only [List.cons_append, List.nil_append, List.cons.injEq] at h
        have := ofNat_inj (by omega) (by omega) h.1
        omega
    · by_cases hv : v < 128
      · rw [vint_ge hu, vint_lt hv] at h
        simp only [List.cons_append, List.nil_append, List.cons.injEq] at h
        have := ofNat_inj (by omega) (by omega) h.1
        omega
      · rw [vint_ge hu, vint_ge hv] at h
        simp only [List.cons_append, List.cons.injEq] at h
        have h1 := ofNat_inj (by omega) (by omega) h.1
        have h2 := ih (u / 128) (by omega) (v / 128) h.2
        exact ⟨by omega, h2.2⟩
theorem zig_inj {n m : Int} (h : zig n = zig m) : n = m := by
  unfold zig at h
  split at h <;> split at h <;> omega
theorem encInt_pf {n m : Int} {r s : List UInt8} (h : encInt n ++ r = encInt m ++ s) : n = m ∧ r = s := by
  obtain ⟨h1, h2⟩ := vint_pf _ _ _ _ h
  exact ⟨zig_inj h1, h2⟩

/-- What has the form of a value. -/
def FormV (v : V) : Prop := 0 ≤ v.k ∧ v.k < 256 ∧ (¬ (v.k = 1 ∨ v.k = 2) → v.n = 0) ∧ (v.k ≠ 3 → v.s = ByteArray.empty)
theorem size_zero {s : ByteArray} (h : s.size = 0) : s = ByteArray.empty := by
  apply ByteArray.ext
  exact Array.eq_empty_of_size_eq_zero h
theorem form_of_valid {v : V} (h : validV v = true) : FormV v := by
  unfold validV at h
  unfold FormV
  split at h
  · simp at h; exact ⟨by omega, by omega, fun _ => h.1, fun _ => h.2⟩
  · split at h
    · simp at h; exact ⟨by omega, by omega, fun k => absurd (.inl ‹_›) k, fun _ => h⟩
    · split at h
      · simp at h; exact ⟨by omega, by omega, fun k => absurd (.inr ‹_›) k, fun _ => h.1⟩
      · split at h
        · simp at h; exact ⟨by omega, by omega, fun _ => h.1, fun k => absurd ‹_› k⟩
        · cases h
theorem kb_inj {a b : Int} (ha : 0 ≤ a ∧ a < 256) (hb : 0 ≤ b ∧ b < 256) (h : kb a = kb b) : a = b := by
  unfold kb at h
  have := ofNat_inj (by omega) (by omega) h
  omega
theorem encVal_pf {v u : V} (hv : FormV v) (hu : FormV u) {r s : List UInt8} (h : encVal v ++ r = encVal u ++ s) : v = u ∧ r = s := by
  obtain ⟨k, n, t⟩ := v
  obtain ⟨k', n', t'⟩ := u
  unfold FormV at hv hu
  unfold encVal encTail at h
  simp only [List.cons_append, List.cons.injEq] at hv hu h
  obtain ⟨hk, h⟩ := h
  obtain rfl := kb_inj ⟨hv.1, hv.2.1⟩ ⟨hu.1, hu.2.1⟩ hk
  by_cases h1 : k = 1 ∨ k = 2
  · rw [if_pos h1, if_pos h1] at h
    obtain ⟨rfl, rfl⟩ := encInt_pf h
    rw [hv.2.2.2 (by omega), hu.2.2.2 (by omega)]
    exact ⟨rfl, rfl⟩
  · rw [if_neg h1, if_neg h1] at h
    rw [hv.2.2.1 h1, hu.2.2.1 h1]
    by_cases h3 : k = 3
    · rw [if_pos h3, if_pos h3, List.append_assoc, List.append_assoc] at h
      obtain ⟨e1, e2⟩ := encInt_pf h
      have hl : t.data.toList.length = t'.data.toList.length := by
        rw [show t.data.toList.length = t.size by simp, show t'.data.toList.length = t'.size by simp]; omega
      obtain ⟨e3, e4⟩ := List.append_inj e2 hl
      have : t = t' := by apply ByteArray.ext; exact Array.toList_inj.1 e3
      subst this
      exact ⟨rfl, e4⟩
    · rw [if_neg h3, if_neg h3] at h
      rw [hv.2.2.2 h3, hu.2.2.2 h3]
      exact ⟨rfl, by simpa using h⟩

/-- A list of things that can be told apart by their beginnings. -/
def PF {α : Type} (P : α → Prop) (enc : α → List UInt8) : Prop := ∀ x y r s, P x → P y → enc x ++ r = enc y ++ s → x = y ∧ r = s
theorem flat_pf {α : Type} {P : α → Prop} {enc : α → List UInt8} (hp : PF P enc) : ∀ (xs ys : List α) (r s : List UInt8), (∀ x ∈ xs, P x) → (∀ y ∈ ys, P y) → xs.length = ys.length → xs.flatMap enc ++ r = ys.flatMap enc ++ s → xs = ys ∧ r = s
  | [], [], r, s, _, _, _, h => ⟨rfl, by simpa using h⟩
  | [], y :: ys, r, s, _, _, hl, _ => by simp at hl
  | x :: xs, [], r, s, _, _, hl, _ => by simp at hl
  | x :: xs, y :: ys, r, s, hx, hy, hl, h => by
    rw [List.flatMap_cons, List.flatMap_cons, List.append_assoc, List.append_assoc] at h
    obtain ⟨rfl, h2⟩ := hp _ _ _ _ (hx x (by simp)) (hy y (by simp)) h
    obtain ⟨rfl, rfl⟩ := flat_pf hp xs ys r s (fun a ha => hx a (by simp [ha])) (fun a ha => hy a (by simp [ha])) (by simpa using hl) h2
    exact ⟨rfl, rfl⟩
theorem flat_next {α : Type} {P : α → Prop} {enc : α → List UInt8} (hp : PF P enc) (xs ys : List α) (r s : List UInt8) (hx : ∀ x ∈ xs, P x) (hy : ∀ y ∈ ys, P y) (hl : xs.length < ys.length) (h : xs.flatMap enc ++ r = ys.flatMap enc ++ s) : ∃ y ∈ ys, ∃ s', r = enc y ++ s' := by
  have e : ys.flatMap enc = (ys.take xs.length).flatMap enc ++ (enc ys[xs.length] ++ (ys.drop (xs.length + 1)).flatMap enc) := by
    conv => lhs; rw [← List.take_append_drop xs.length ys]
    rw [List.flatMap_append, List.drop_eq_getElem_cons hl, List.flatMap_cons]
  rw [e, List.append_assoc] at h
  obtain ⟨-, h2⟩ := flat_pf hp xs (ys.take xs.length) _ _ hx (fun y hm => hy y (List.mem_of_mem_take hm)) (by simp; omega) h
  exact ⟨_, List.getElem_mem hl, _, by rw [h2, List.append_assoc]⟩
theorem encVal_PF : PF FormV encVal := fun _ _ _ _ h1 h2 h => encVal_pf h1 h2 h
def FormR (r : Rw) : Prop := ∀ v ∈ r.vs, FormV v
theorem encRow_PF : PF FormR encRow := by
  intro x y r s hx hy h
  obtain ⟨t, vs⟩ := x
  obtain ⟨t', vs'⟩ := y
  unfold encRow at h
  simp only [List.append_assoc] at h
  obtain ⟨ht, h2⟩ := encInt_pf h
  obtain ⟨hl, h3⟩ := encInt_pf h2
  obtain ⟨rfl, rfl⟩ := flat_pf encVal_PF vs vs' r s hx hy (by omega) h3
  subst ht
  exact ⟨rfl, rfl⟩
theorem encRows_pf {xs ys : List Rw} {r s : List UInt8} (hx : ∀ x ∈ xs, FormR x) (hy : ∀ y ∈ ys, FormR y) (h : encRows xs ++ r = encRows ys ++ s) : xs = ys ∧ r = s := by
  unfold encRows at h
  simp only [List.append_assoc] at h
  obtain ⟨hl, h⟩ := encInt_pf h
  exact flat_pf encRow_PF xs ys r s hx hy (by omega) h
theorem formR_of_valid {r : Rw} (h : validR r = true) : FormR r := by
  intro v hv
  unfold validR at h
  simp at h
  exact form_of_valid (h.1 v hv)
end Go.Proofs.YtdbboaebigpkoaaGreatDoor.Wr
namespace Go.Proofs.YtdbboaebigpkoaaGreatDoor.Wr
open Go.RowKit
set_option linter.unusedVariables false
set_option maxRecDepth 100000

def blist (f : Nat → UInt8) (n : Nat) : List UInt8 := (List.range n).map f
def lstr (l : List UInt8) : ByteArray := ⟨l.toArray⟩
theorem blist_len (f : Nat → UInt8) (n : Nat) : (blist f n).length = n := by simp [blist]
theorem lstr_size (l : List UInt8) : (lstr l).size = l.length := by simp [lstr, ByteArray.size]
theorem bstr_blist (f : Nat → UInt8) (n : Nat) : bstr f n = lstr (blist f n) := rfl
theorem lstr_append (l m : List UInt8) : lstr l ++ lstr m = lstr (l ++ m) := by
  apply ByteArray.ext
  simp [lstr]
/-- The bytes of a list, by place. -/
def lat (l : List UInt8) : Nat → UInt8 := fun i => l.getD i 0
theorem blist_lat (l : List UInt8) : blist (lat l) l.length = l := by
  apply List.ext_getElem?
  intro i
  by_cases hi : i < l.length
  · simp [blist, lat, hi]
  · simp [blist, hi]
theorem bstr_lat (l : List UInt8) : bstr (lat l) l.length = lstr l := by rw [bstr_blist, blist_lat]
theorem bstr_left (f : Nat → UInt8) (n : Nat) (m : List UInt8) : bstr (lat (blist f n ++ m)) n = bstr f n := by
  rw [bstr_eq]
  intro i hi
  have h : i < (blist f n).length := by rw [blist_len]; exact hi
  simp [lat, List.getElem?_append_left h]
  simp [blist, hi]
theorem bstr_right (l m : List UInt8) : bstr (fun i => lat (l ++ m) (l.length + i)) m.length = lstr m := by
  rw [← bstr_lat m, bstr_eq]
  intro i hi
  simp [lat, List.getElem?_append_right]

theorem OL.form {w : World} {B : Nat} {v : Value} {l : List UInt8} (h : OL w B v l) : (v = .slice none 0 0 ∧ l = []) ∨ ∃ g c, v = .slice (some ⟨g, 0, none⟩) l.length c ∧ l.length ≤ c ∧ c ≤ maxLen := by
  rcases h.2 with ⟨h1, h2⟩ | ⟨g, c, _, h1, _, _, h3, h4, _⟩
  · exact .inl ⟨h1, List.eq_nil_of_length_eq_zero h2⟩
  · exact .inr ⟨g, c, h1, h3, h4⟩
theorem OL.bytes {w : World} {B : Nat} {a : Option Addr} {n c : Nat} {l : List UInt8} (h : OL w B (.slice a n c) l) : n = l.length ∧ Bytes w a l.length (lat l) := by
  rcases h.form with ⟨h1, rfl⟩ | ⟨g, c', h1, -, -⟩
  · simp at h1; exact ⟨by simp [h1], fun i hi => absurd hi (by simp)⟩
  · simp only [Value.slice.injEq] at h1
    obtain ⟨rfl, rfl, rfl⟩ := h1
    refine ⟨rfl, bytes_of_own (B := B) (cap := c) ?_⟩
    have e : ((List.range l.length).map fun i => u8v (lat l i)) = l.map u8v := by
      conv => rhs; rw [← blist_lat l]
      simp [blist]
    rw [e]; exact h
theorem OL.conv {w : World} {B : Nat} {v : Value} {l : List UInt8} (h : OL w B v l) : ∃ a c, v = .slice a l.length c ∧ Bytes w a l.length (lat l) ∧ l.length ≤ c ∧ c ≤ maxLen := by
  rcases h.form with ⟨rfl, rfl⟩ | ⟨g, c', rfl, h1, h2⟩
  · exact ⟨none, 0, rfl, fun i hi => absurd hi (by simp), by simp, by decide⟩
  · exact ⟨_, _, rfl, h.bytes.2, h1, h2⟩

end Go.Proofs.YtdbboaebigpkoaaGreatDoor.Wr
namespace Go.Proofs.YtdbboaebigpkoaaGreatDoor.Wr
open Go.RowKit
set_option linter.unusedVariables false
set_option maxRecDepth 100000

/-- Seven bits a byte, the lowest first. -/
def val : List UInt8 → Nat
  | [] => 0
  | c :: p => c.toNat % 128 + 128 * val p
def Hi (p : List UInt8) : Prop := ∀ c ∈ p, 128 ≤ c.toNat
theorem ofNat_toNat (c : UInt8) : UInt8.ofNat c.toNat = c := by
  apply UInt8.toNat_inj.1
  rw [UInt8.toNat_ofNat']
  have := UInt8.toNat_lt c
  omega
theorem val_lt : ∀ p : List UInt8, val p < 128 ^ p.length
  | [] => by simp [val]
  | c :: p => by
    have := val_lt p
    rw [val, List.length_cons, Nat.pow_succ]
    omega
theorem val_snoc (c : UInt8) : ∀ p : List UInt8, val (p ++ [c]) = val p + 128 ^ p.length * (c.toNat % 128)
  | [] => by simp [val]
  | d :: p => by
    rw [List.cons_append, val, val_snoc c p, val, List.length_cons, Nat.pow_succ, Nat.mul_add, Nat.mul_comm (128 ^ p.length) 128, Nat.mul_assoc]
    omega
theorem vint_split : ∀ (p : List UInt8) (z : Nat) (s t : List UInt8), Hi p → vint z ++ s = p ++ t → ∃ z', z = val p + 128 ^ p.length * z' ∧ vint z' ++ s = t ∧ (p ≠ [] → 0 < z')
  | [], z, s, t, _, h => ⟨z, by simp [val], by simpa using h, fun k => absurd rfl k⟩
  | c :: p, z, s, t, hp, h => by
    have hc := hp c (by simp)
    have hc2 := UInt8.toNat_lt c
    have hz : ¬ z < 128 := by
      intro hz
      rw [vint_lt hz] at h
      simp only [List.cons_append, List.nil_append, List.cons.injEq] at h
      have := congrArg UInt8.toNat h.1
      rw [UInt8.toNat_ofNat'] at this
      omega
    rw [vint_ge hz] at h
    simp only [List.cons_append, List.cons.injEq] at h
    have h1 := congrArg UInt8.toNat h.1
    rw [UInt8.toNat_ofNat'] at h1
    obtain ⟨z', e1, e2, e3⟩ := vint_split p (z / 128) s t (fun d hd => hp d (by simp [hd])) h.2
    refine ⟨z', ?_, e2, fun _ => ?_⟩
    · rw [val, List.length_cons, Nat.pow_succ, Nat.mul_comm (128 ^ p.length) 128, Nat.mul_assoc, Nat.add_assoc, ← Nat.mul_add, ← e1]
      omega
    · by_cases hn : p = []
      · subst hn; simp [val] at e1; omega
      · exact e3 hn
theorem vint_join : ∀ (p : List UInt8) (z : Nat), Hi p → (p ≠ [] → 0 < z) → vint (val p + 128 ^ p.length * z) = p ++ vint z
  | [], z, _, _ => by simp [val]
  | c :: p, z, hp, hz => by
    have hc := hp c (by simp)
    have hc2 := UInt8.toNat_lt c
    have h0 : 0 < 128 ^ p.length * z := Nat.mul_pos (Nat.pow_pos (by decide)) (hz (by simp))
    have ih := vint_join p z (fun d hd => hp d (by simp [hd])) (fun _ => hz (by simp))
    rw [val, List.length_cons, Nat.pow_succ, Nat.mul_comm (128 ^ p.length) 128, Nat.mul_assoc, Nat.add_assoc, ← Nat.mul_add]
    have hN : 0 < val p + 128 ^ p.length * z := by omega
    generalize val p + 128 ^ p.length * z = N at *
    rw [vint_ge (by omega), show (c.toNat % 128 + 128 * N) / 128 = N by omega, ih, show (c.toNat % 128 + 128 * N) % 128 + 128 = c.toNat by omega, ofNat_toNat]
    rfl
def unz (u : Nat) : Int := if u % 2 = 0 then ((u / 2 : Nat) : Int) else -((u / 2 : Nat) : Int) - 1
def InI (n : Int) : Prop := -9223372036854775808 ≤ n ∧ n ≤ 9223372036854775807
theorem zig_unz (u : Nat) : zig (unz u) = u := by
  unfold zig unz
  split <;> split <;> omega
theorem unz_in {u : Nat} (h : u < 18446744073709551616) : InI (unz u) := by
  unfold InI unz
  split <;> omega
theorem InI.zig {n : Int} (h : InI n) : zig n < 18446744073709551616 := zig_lt n h.1 h.2
theorem encInt_unz (u : Nat) : encInt (unz u) = vint u := by rw [encInt, zig_unz]

theorem num_ok {p : List UInt8} {c : UInt8} (hp : Hi p) (hc : c.toNat < 128) (h0 : p = [] ∨ 0 < c.toNat) : encInt (unz (val (p ++ [c]))) = p ++ [c] := by
  rw [encInt_unz, val_snoc, Nat.mod_eq_of_lt hc, vint_join p c.toNat hp (fun h => h0.resolve_left h), vint_lt hc, ofNat_toNat]
theorem num_cut {p : List UInt8} (hp : Hi p) (m : Int) (s : List UInt8) : p ≠ encInt m ++ s := by
  intro h
  obtain ⟨z', -, e, -⟩ := vint_split p (zig m) s [] hp (by rw [List.append_nil]; exact h.symm)
  have := congrArg List.length e
  have h2 := vint_pos z'
  rw [List.length_append, List.length_nil] at this
  omega
theorem num_zero {p t : List UInt8} {c : UInt8} (hp : Hi p) (hne : p ≠ []) (hc : c.toNat = 0) (m : Int) (s : List UInt8) : p ++ c :: t ≠ encInt m ++ s := by
  intro h
  obtain ⟨z', -, e, e2⟩ := vint_split p (zig m) s (c :: t) hp h.symm
  have hz := e2 hne
  by_cases h1 : z' < 128
  · rw [vint_lt h1] at e
    simp only [List.cons_append, List.nil_append, List.cons.injEq] at e
    have := congrArg UInt8.toNat e.1
    rw [UInt8.toNat_ofNat'] at this
    omega
  · rw [vint_ge h1] at e
    simp only [List.cons_append, List.cons.injEq] at e
    have := congrArg UInt8.toNat e.1
    rw [UInt8.toNat_ofNat'] at this
    omega
theorem num_great {p t : List UInt8} {c : UInt8} (hp : Hi p) (hl : p.length = 9) (hc : 1 < c.toNat) (m : Int) (hm : InI m) (s : List UInt8) : p ++ c :: t ≠ encInt m ++ s := by
  intro h
  obtain ⟨z', e1, e, -⟩ := vint_split p (zig m) s (c :: t) hp h.symm
  have hz := hm.zig
  rw [e1, hl] at hz
  have h1 : z' ≤ 1 := by omega
  rw [vint_lt (by omega)] at e
  simp only [List.cons_append, List.nil_append, List.cons.injEq] at e
  have := congrArg UInt8.toNat e.1
  rw [UInt8.toNat_ofNat'] at this
  omega
end Go.Proofs.YtdbboaebigpkoaaGreatDoor.Wr
namespace Go.Proofs.YtdbboaebigpkoaaGreatDoor.Wr
open Go.RowKit
set_option linter.unusedVariables false
set_option maxRecDepth 100000

theorem and127 (x : Nat) (hx : x < 256) : bits .and .u8 (x : Int) 127 = ((x % 128 : Nat) : Int) := by
  have key : ∀ z : Fin 256, bits .and .u8 ((z.val : Nat) : Int) 127 = ((z.val % 128 : Nat) : Int) := by decide +kernel
  exact key ⟨x, hx⟩
theorem pow7 (k : Nat) : (2 : Nat) ^ (7 * k) = 128 ^ k := by rw [Nat.pow_mul]
theorem low_or (v x k : Nat) (hv : v < 128 ^ k) (h : 128 ^ k * x + v < 18446744073709551616) : bits .or .u64 (v : Int) ((128 ^ k * x : Nat) : Int) = ((v + 128 ^ k * x : Nat) : Int) := by
  rw [u64_or_nat _ _ (by omega) (by omega)]
  congr 1
  rw [← pow7] at *
  rw [Nat.or_comm, ← Nat.two_pow_add_eq_or_of_lt hv]
  omega
theorem num_or (v x k : Nat) (hv : v < 128 ^ k) (hx : x < 256) (hk : k ≤ 8 ∨ (k = 9 ∧ x ≤ 1)) :
    bits .or .u64 (v : Int) (IntKind.u64.wrap (IntKind.u64.wrap (bits .and .u8 (x : Int) 127) * 2 ^ (7 * k))) = ((v + 128 ^ k * (x % 128) : Nat) : Int) ∧ v + 128 ^ k * (x % 128) < 18446744073709551616 := by
  have hb : 128 ^ k * (x % 128) + v < 18446744073709551616 := by
    rcases hk with h8 | ⟨rfl, h1⟩
    · have h : 128 ^ k ≤ 128 ^ 8 := Nat.pow_le_pow_right (by decide) h8
      have h2 : 128 ^ k * (x % 128) ≤ 128 ^ 8 * 127 := Nat.mul_le_mul h (by omega)
      have e : (128 : Nat) ^ 8 = 72057594037927936 := by decide
      rw [e] at h h2
      omega
    · have e : (128 : Nat) ^ 9 = 9223372036854775808 := by decide
      rw [e] at hv ⊢
      omega
  refine ⟨?_, by omega⟩
  rw [and127 x hx, wrap64u, wrap64u]
  have e1 : ((x % 128 : Nat) : Int) % 18446744073709551616 = ((x % 128 : Nat) : Int) := by omega
  have e2 : ((x % 128 : Nat) : Int) * 2 ^ (7 * k) = ((128 ^ k * (x % 128) : Nat) : Int) := by
    rw [← pow7, Int.natCast_mul, Int.natCast_pow, Int.mul_comm]; rfl
  rw [e1, e2, Int.emod_eq_of_lt (by omega) (by omega)]
  exact low_or v (x % 128) k hv hb

theorem wrapI64 (x : Int) : IntKind.i64.wrap x = (x + 9223372036854775808) % 18446744073709551616 - 9223372036854775808 := by
  rw [IntKind.wrap_i64]
theorem xor_none (x : Nat) (hx : x < 9223372036854775808) : bits .xor .i64 (x : Int) 0 = (x : Int) := by
  show IntKind.i64.wrap ((BitVec.ofInt 64 (x : Int) ^^^ BitVec.ofInt 64 0).toNat : Int) = _
  rw [show BitVec.ofInt 64 0 = 0#64 by decide, BitVec.xor_zero, ofInt_u64 x (by omega)]
  rw [wrapI64]
  omega
theorem xor_all (x : Nat) (hx : x < 9223372036854775808) : bits .xor .i64 (x : Int) (-1) = -(x : Int) - 1 := by
  show IntKind.i64.wrap ((BitVec.ofInt 64 (x : Int) ^^^ BitVec.ofInt 64 (-1)).toNat : Int) = _
  rw [BitVec.toNat_xor, ofInt_u64 x (by omega), show (BitVec.ofInt 64 (-1)).toNat = 18446744073709551615 by decide, xor_ones x (by omega)]
  rw [wrapI64]
  omega
theorem and_one (U : Nat) (h : U < 18446744073709551616) : bits .and .u64 (U : Int) 1 = ((U % 2 : Nat) : Int) := by
  have := u64_and_nat U 1 h (by decide)
  rw [show ((1 : Nat) : Int) = 1 by rfl] at this
  rw [this, Nat.and_one_is_mod]
theorem num_val (U : Nat) (h : U < 18446744073709551616) : bits .xor .i64 (wrap64 ((U : Int) / 2)) (wrap64 (-wrap64 (bits .and .u64 (U : Int) 1))) = unz U := by
  rw [and_one U h]
  have e1 : wrap64 ((U : Int) / 2) = ((U / 2 : Nat) : Int) := by unfold wrap64; omega
  rw [e1]
  unfold unz
  by_cases h2 : U % 2 = 0
  · rw [if_pos h2, h2, show wrap64 (-wrap64 ((0 : Nat) : Int)) = 0 by unfold wrap64; omega]
    exact xor_none _ (by omega)
  · have h3 : U % 2 = 1 := by omega
    rw [if_neg h2, h3, show wrap64 (-wrap64 ((1 : Nat) : Int)) = -1 by unfold wrap64; omega]
    exact xor_all _ (by omega)
end Go.Proofs.YtdbboaebigpkoaaGreatDoor.Wr
