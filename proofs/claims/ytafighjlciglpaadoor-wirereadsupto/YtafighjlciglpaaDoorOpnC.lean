import Derived.Test.YtafighjlciglpaaDoorOpnB
import Derived.Test.YtafighjlciglpaaDoorShelf
import Derived.Sort.AtCall
namespace Go.Proofs.YtafighjlciglpaaDoor
open Go.RowKit
set_option linter.unusedVariables false
set_option maxRecDepth 100000

/-- What is wrong with the sealed body at a place (0: nothing). -/
def opnE (f : Nat → UInt8) (len : Nat) (at_ : Int) : Nat :=
  if at_ < 0 ∨ (len : Int) < at_ + 8 then 7
  else
    let k := at_.toNat
    let n := wordN fun i => f (k + i)
    if 134217728 < n ∨ len < k + 8 + n then 7
    else if sumN (fun i => f (k + 8 + i)) n = wordN (fun i => f (k + 4 + i)) then 0 else 8

theorem opnE_out (f : Nat → UInt8) (len : Nat) (at_ : Int) (h : at_ < 0 ∨ (len : Int) < at_ + 8) : opnE f len at_ = 7 := by unfold opnE; rw [if_pos h]
theorem opnE_in (f : Nat → UInt8) (len k : Nat) (h : k + 8 ≤ len) : opnE f len (k : Int) = (if 134217728 < (wordN fun i => f (k + i)) ∨ len < k + 8 + (wordN fun i => f (k + i)) then 7 else if sumN (fun i => f (k + 8 + i)) (wordN fun i => f (k + i)) = wordN (fun i => f (k + 4 + i)) then 0 else 8) := by
  unfold opnE
  rw [if_neg (by omega)]
  simp only [Int.toNat_natCast]

theorem Bytes.from {w : World} {b o len : Nat} {f : Nat → UInt8} (h : Bytes w (some ⟨b, o, none⟩) len f) (k m : Nat) (hk : k + m ≤ len) : Bytes w (some ⟨b, o + k, none⟩) m (fun i => f (k + i)) := by
  intro i hi
  obtain ⟨b', o', e, hc⟩ := h (k + i) (by omega)
  cases e
  exact ⟨b, o + k, rfl, by rw [Nat.add_assoc]; exact hc⟩
theorem wordN_lt (f : Nat → UInt8) : wordN f < 4294967296 := by
  unfold wordN
  have t0 := UInt8.toNat_lt (f 0)
  have t1 := UInt8.toNat_lt (f 1)
  have t2 := UInt8.toNat_lt (f 2)
  have t3 := UInt8.toNat_lt (f 3)
  omega

set_option maxHeartbeats 4000000 in
theorem open_out (a : Option Addr) (len cap : Nat) (f : Nat → UInt8) (at_ : Int) (w : World) (hm : len ≤ 140737488355328) (ha1 : -9223372036854775808 ≤ at_) (ha2 : at_ ≤ 9223372036854775807) (ho : at_ < 0 ∨ (len : Int) < at_ + 8) :
    Calls Tryd.prog 11 #[.slice a len cap, .int .i64 at_] w fun e w' => e = .returned (.tuple #[.slice none 0 0, .int .i64 0, .iface 31 (.int .i64 7)]) ∧ w' = w := by
  go_enter Tryd.func11, Tryd.ntmps11
  by_cases h0 : at_ < 0
  · go_wp2
    go_ret3
    exact ⟨rfl, rfl⟩
  · have h1 : (len : Int) - 8 < at_ := by omega
    go_wp2
    go_ret3
    exact ⟨rfl, rfl⟩

set_option maxHeartbeats 4000000 in
theorem open_in (b o len cap k : Nat) (f : Nat → UInt8) (w : World) (hl : Bytes w (some ⟨b, o, none⟩) len f) (hc : len ≤ cap) (hm : cap ≤ 140737488355328) (hk : k + 8 ≤ len) (hq : Quart w) :
    Calls Tryd.prog 11 #[.slice (some ⟨b, o, none⟩) len cap, .int .i64 (k : Int)] w fun e w' => Below w.heap.size w w' ∧
      ((opnE f len k ≠ 0 ∧ e = .returned (.tuple #[.slice none 0 0, .int .i64 0, .iface 31 (.int .i64 (opnE f len k : Nat))])) ∨
       (opnE f len k = 0 ∧ ∃ v' n, n = (wordN fun i => f (k + i)) ∧ k + 8 + n ≤ len ∧ n ≤ 134217728 ∧ e = .returned (.tuple #[v', .int .i64 ((k + 8 + n : Nat) : Int), .nilIface]) ∧ w'.ownsRow w.heap.size 5 1 v' n ((List.range n).map fun i => u8v (f (k + 8 + i))))) := by
  have HB1 := hl.from k (len - k) (by omega)
  have HB2 := hl.from (k + 4) (len - (k + 4)) (by omega)
  have HE : Hid (_) := opnE_in f len k hk
  have hn1 := wordN_lt fun i => f (k + i)
  have hn2 := wordN_lt fun i => f (k + 4 + i)
  have W1 := fun W hW => word_any (some ⟨b, o + k, none⟩) (len - k) (cap - k) (fun i => f (k + i)) W hW (by omega) (by unfold maxLen; omega)
  have W2 := fun W hW => word_any (some ⟨b, o + (k + 4), none⟩) (len - (k + 4)) (cap - (k + 4)) (fun i => f (k + 4 + i)) W hW (by omega) (by unfold maxLen; omega)
  generalize wordN (fun i => f (k + i)) = n at *
  generalize wordN (fun i => f (k + 4 + i)) = s at *
  have W1' : Hid (∀ m, Calls Tryd.prog 24 #[.slice (some ⟨b, o + k, none⟩) (len - k) (cap - k)] (w.drewN m) fun e w' => e = .returned (.int .u32 (n : Int)) ∧ ∃ q, w' = (w.drewN m).drewN q) := fun m => W1 _ (HB1.later (below_drewN (Below.refl _ _) _))
  have W2' : Hid (∀ m, Calls Tryd.prog 24 #[.slice (some ⟨b, o + (k + 4), none⟩) (len - (k + 4)) (cap - (k + 4))] (w.drewN m) fun e w' => e = .returned (.int .u32 (s : Int)) ∧ ∃ q, w' = (w.drewN m).drewN q) := fun m => W2 _ (HB2.later (below_drewN (Below.refl _ _) _))
  clear W1 W2 HB1 HB2
  have HL : Hid (Bytes w (some ⟨b, o, none⟩) len f) := hl
  have HQ : Hid (Quart w) := hq
  have k0 : (0 : Int) ≤ (k : Int) := by omega
  have k1 : ¬ ((len : Int) - 8 < (k : Int)) := by omega
  have k2 : (k : Int) ≤ (len : Int) := by omega
  have k3 : (k : Int) + 4 ≤ (len : Int) := by omega
  have k4 : (k : Int) + 8 ≤ (len : Int) := by omega
  have k5 : (len : Int) ≤ (cap : Int) := by omega
  have k6 : (cap : Int) ≤ 140737488355328 := by omega
  clear hl hq
  go_enter Tryd.func11, Tryd.ntmps11
  go_wp2
  go_quiet (first | (go_at_call_has 24 (len - k); refine Calls.quiet_of (W1'.out _)) | (go_at_call_has 24 (len - (k + 4)); refine Calls.quiet_of (W2'.out _)))
  clear W1' W2'
  have hA : ∃ o', (if cap = k + 8 then some (Addr.mk b o none) else some (Addr.mk b (o + (k + 8)) none)) = some (Addr.mk b o' none) ∧ Bytes w (some ⟨b, o', none⟩) (len - (k + 8)) fun i => f (k + 8 + i) := by
    by_cases hck : cap = k + 8
    · exact ⟨o, by rw [if_pos hck], fun i hi => absurd hi (by omega)⟩
    · exact ⟨o + (k + 8), by rw [if_neg hck], HL.out.from (k + 8) (len - (k + 8)) (by omega)⟩
  obtain ⟨o', eA, hR⟩ := hA
  rw [eA]
  clear eA HL
  have HR : Hid (Bytes (w.drewN nq) (some ⟨b, o', none⟩) (len - (k + 8)) fun i => f (k + 8 + i)) := hR.later (below_drewN (Below.refl _ _) _)
  have HQ' : Hid (Quart (w.drewN nq)) := HQ.out.later (below_drewN (Below.refl _ _) _)
  clear hR HQ
  by_cases g1 : (134217728 : Int) < (n : Int)
  · have he : Hid (opnE f len k = 7) := by rw [Hid, HE.out, if_pos (by omega)]
    go_wp2
    go_ret3
    rw [he.out]
    exact ⟨below_drewN (Below.refl _ _) _, .inl ⟨by decide, rfl⟩⟩
  have g1' : (n : Int) ≤ 134217728 := by omega
  by_cases g2 : ((len - (k + 8) : Nat) : Int) < (n : Int)
  · have he : Hid (opnE f len k = 7) := by rw [Hid, HE.out, if_pos (by omega)]
    go_wp2
    go_ret3
    rw [he.out]
    exact ⟨below_drewN (Below.refl _ _) _, .inl ⟨by decide, rfl⟩⟩
  have g2' : (n : Int) ≤ ((len - (k + 8) : Nat) : Int) := by omega
  have g3 : ((len - (k + 8) : Nat) : Int) ≤ ((cap - (k + 8) : Nat) : Int) := by omega
  have HE' : Hid (opnE f len k = if sumN (fun i => f (k + 8 + i)) n = s then 0 else 8) := by rw [Hid, HE.out, if_neg (by omega)]
  clear HE
  go_wp2_with fail
  refine (sum_any (some ⟨b, o', none⟩) n (cap - (k + 8)) (fun i => f (k + 8 + i)) _ (fun i hi => HR.out i (by omega)) (by unfold maxLen; omega) HQ'.out).mono ?_
  rintro e w1 ⟨rfl, e1⟩
  have e1' := e1.symm
  subst e1'
  clear e1
  by_cases hs : sumN (fun i => f (k + 8 + i)) n = s
  · have he : Hid (opnE f len k = 0) := by rw [Hid, HE'.out, if_pos hs]
    rw [hs]
    clear HE' HQ'
    go_wp2_with fail
    refine (Tryd.bytes_Clone_at ⟨b, o', none⟩ n (cap - (k + 8)) ((List.range n).map fun i => ((f (k + 8 + i)).toNat : Int)) _ (by simp) (by omega) ?_).mono ?_
    · intro i hi
      obtain ⟨b', o2, e, hc⟩ := HR.out i (by omega)
      cases e
      rw [WideShapes.add_plain, hc]
      simp [hi]
    rintro e w1 ⟨v', rfl, hown, -, hB⟩
    have HO : Hid (w1.ownsRow w.heap.size 5 1 v' n ((List.range n).map fun i => u8v (f (k + 8 + i)))) := by
      unfold Hid
      rw [List.map_map] at hown
      exact hown
    have HB : Hid (Below w.heap.size w w1) := (below_drewN (Below.refl _ _) nq).trans hB
    clear hown hB HR
    go_wp2
    go_ret3
    refine ⟨HB.out, .inr ⟨he.out, v', n, rfl, by omega, by omega, ?_, HO.out⟩⟩
    rw [show ((k + 8 + n : Nat) : Int) = (k : Int) + 8 + (n : Int) by omega]
    rfl
  · have he : Hid (opnE f len k = 8) := by rw [Hid, HE'.out, if_neg hs]
    have hs' : ¬ ((sumN (fun i => f (k + 8 + i)) n : Nat) : Int) = (s : Int) := by omega
    clear HE' HQ'
    go_wp2
    go_ret3
    rw [he.out]
    exact ⟨below_drewN (Below.refl _ _) _, .inl ⟨by decide, rfl⟩⟩
end Go.Proofs.YtafighjlciglpaaDoor
