import Derived.Test.YtafighjlciglpaaDoorOpnE
namespace Go.Proofs.YtafighjlciglpaaDoor
open Go.RowKit
set_option linter.unusedVariables false
set_option maxRecDepth 100000

set_option maxHeartbeats 4000000 in
theorem open_in2 (b o len cap k : Nat) (f : Nat → UInt8) (w : World) (hl : Bytes w (some ⟨b, o, none⟩) len f) (hc : len ≤ cap) (hm : cap ≤ 9223372036854775807) (hml : len ≤ 140737488355328) (hk : k + 8 ≤ len) (hq : Quart w) :
    Calls Tryd.prog 11 #[.slice (some ⟨b, o, none⟩) len cap, .int .i64 (k : Int)] w fun e w' => Below w.heap.size w w' ∧
      ((opnE f len k ≠ 0 ∧ e = .returned (.tuple #[.slice none 0 0, .int .i64 0, .iface 31 (.int .i64 (opnE f len k : Nat))])) ∨
       (opnE f len k = 0 ∧ ∃ v' n, n = (wordN fun i => f (k + i)) ∧ k + 8 + n ≤ len ∧ n ≤ 134217728 ∧ e = .returned (.tuple #[v', .int .i64 ((k + 8 + n : Nat) : Int), .nilIface]) ∧ w'.ownsRow w.heap.size 5 1 v' n ((List.range n).map fun i => u8v (f (k + 8 + i))))) := by
  have HB1 := hl.from k (len - k) (by omega)
  have HB2 := hl.from (k + 4) (len - (k + 4)) (by omega)
  have HE : Hid (_) := opnE_in f len k hk
  have hn1 := wordN_lt fun i => f (k + i)
  have hn2 := wordN_lt fun i => f (k + 4 + i)
  have W1 := fun W hW => word_any (some ⟨b, o + k, none⟩) (len - k) (cap - k) (fun i => f (k + i)) W hW (by omega) (by unfold maxLen; omega)
  have W2 := fun W hW => word_any (some ⟨b, o + (k + 4), none⟩) (len - (k + 4)) (cap - (k + 4)) (fun i => f (k + 4 + i)) W hW (by omega) (by unfold maxLen; omega)
  generalize wordN (fun i => f (k + i)) = n at *
  generalize wordN (fun i => f (k + 4 + i)) = s at *
  have W1' : Hid (∀ m, Calls Tryd.prog 24 #[.slice (some ⟨b, o + k, none⟩) (len - k) (cap - k)] (w.drewN m) fun e w' => e = .returned (.int .u32 (n : Int)) ∧ ∃ q, w' = (w.drewN m).drewN q) := fun m => W1 _ (HB1.later (below_drewN (Below.refl _ _) _))
  have W2' : Hid (∀ m, Calls Tryd.prog 24 #[.slice (some ⟨b, o + (k + 4), none⟩) (len - (k + 4)) (cap - (k + 4))] (w.drewN m) fun e w' => e = .returned (.int .u32 (s : Int)) ∧ ∃ q, w' = (w.drewN m).drewN q) := fun m => W2 _ (HB2.later (below_drewN (Below.refl _ _) _))
  clear W1 W2 HB1 HB2
  have HL : Hid (Bytes w (some ⟨b, o, none⟩) len f) := hl
  have HQ : Hid (Quart w) := hq
  have k0 : (0 : Int) ≤ (k : Int) := by omega
  have k1 : ¬ ((len : Int) - 8 < (k : Int)) := by omega
  have k2 : (k : Int) ≤ (len : Int) := by omega
  have k3 : (k : Int) + 4 ≤ (len : Int) := by omega
  have k4 : (k : Int) + 8 ≤ (len : Int) := by omega
  have k5 : (len : Int) ≤ (cap : Int) := by omega
  have k6 : (cap : Int) ≤ 9223372036854775807 := by omega
  have k7 : (len : Int) ≤ 140737488355328 := by omega
  clear hl hq
  go_enter Tryd.func11, Tryd.ntmps11
  go_wp2
  go_quiet (first | (go_at_call_has 24 (len - k); refine Calls.quiet_of (W1'.out _)) | (go_at_call_has 24 (len - (k + 4)); refine Calls.quiet_of (W2'.out _)))
  clear W1' W2'
  have hA : ∃ o', (if cap = k + 8 then some (Addr.mk b o none) else some (Addr.mk b (o + (k + 8)) none)) = some (Addr.mk b o' none) ∧ Bytes w (some ⟨b, o', none⟩) (len - (k + 8)) fun i => f (k + 8 + i) := by
    by_cases hck : cap = k + 8
    · exact ⟨o, by rw [if_pos hck], fun i hi => absurd hi (by omega)⟩
    · exact ⟨o + (k + 8), by rw [if_neg hck], HL.out.from (k + 8) (len - (k + 8)) (by omega)⟩
  obtain ⟨o', eA, hR⟩ := hA
  rw [eA]
  clear eA HL
  have HR : Hid (Bytes (w.drewN nq) (some ⟨b, o', none⟩) (len - (k + 8)) fun i => f (k + 8 + i)) := hR.later (below_drewN (Below.refl _ _) _)
  have HQ' : Hid (Quart (w.drewN nq)) := HQ.out.later (below_drewN (Below.refl _ _) _)
  clear hR HQ
  by_cases g1 : (134217728 : Int) < (n : Int)
  · have he : Hid (opnE f len k = 7) := by rw [Hid, HE.out, if_pos (by omega)]
    go_wp2
    go_ret3
    rw [he.out]
    exact ⟨below_drewN (Below.refl _ _) _, .inl ⟨by decide, rfl⟩⟩
  have g1' : (n : Int) ≤ 134217728 := by omega
  by_cases g2 : ((len - (k + 8) : Nat) : Int) < (n : Int)
  · have he : Hid (opnE f len k = 7) := by rw [Hid, HE.out, if_pos (by omega)]
    go_wp2
    go_ret3
    rw [he.out]
    exact ⟨below_drewN (Below.refl _ _) _, .inl ⟨by decide, rfl⟩⟩
  have g2' : (n : Int) ≤ ((len - (k + 8) : Nat) : Int) := by omega
  have g3 : ((len - (k + 8) : Nat) : Int) ≤ ((cap - (k + 8) : Nat) : Int) := by omega
  have HE' : Hid (opnE f len k = if sumN (fun i => f (k + 8 + i)) n = s then 0 else 8) := by rw [Hid, HE.out, if_neg (by omega)]
  clear HE
  go_wp2_with fail
  refine (sum_any (some ⟨b, o', none⟩) n (cap - (k + 8)) (fun i => f (k + 8 + i)) _ (fun i hi => HR.out i (by omega)) (by unfold maxLen; omega) HQ'.out).mono ?_
  rintro e w1 ⟨rfl, e1⟩
  have e1' := e1.symm
  subst e1'
  clear e1
  by_cases hs : sumN (fun i => f (k + 8 + i)) n = s
  · have he : Hid (opnE f len k = 0) := by rw [Hid, HE'.out, if_pos hs]
    rw [hs]
    clear HE' HQ'
    go_wp2_with fail
    refine (Tryd.bytes_Clone_at ⟨b, o', none⟩ n (cap - (k + 8)) ((List.range n).map fun i => ((f (k + 8 + i)).toNat : Int)) _ (by simp) (by omega) ?_).mono ?_
    · intro i hi
      obtain ⟨b', o2, e, hc⟩ := HR.out i (by omega)
      cases e
      rw [WideShapes.add_plain, hc]
      simp [hi]
    rintro e w1 ⟨v', rfl, hown, -, hB⟩
    have HO : Hid (w1.ownsRow w.heap.size 5 1 v' n ((List.range n).map fun i => u8v (f (k + 8 + i)))) := by
      unfold Hid
      rw [List.map_map] at hown
      exact hown
    have HB : Hid (Below w.heap.size w w1) := (below_drewN (Below.refl _ _) nq).trans hB
    clear hown hB HR
    go_wp2
    go_ret3
    refine ⟨HB.out, .inr ⟨he.out, v', n, rfl, by omega, by omega, ?_, HO.out⟩⟩
    rw [show ((k + 8 + n : Nat) : Int) = (k : Int) + 8 + (n : Int) by omega]
    rfl
  · have he : Hid (opnE f len k = 8) := by rw [Hid, HE'.out, if_neg hs]
    have hs' : ¬ ((sumN (fun i => f (k + 8 + i)) n : Nat) : Int) = (s : Int) := by omega
    clear HE' HQ'
    go_wp2
    go_ret3
    rw [he.out]
    exact ⟨below_drewN (Below.refl _ _) _, .inl ⟨by decide, rfl⟩⟩

theorem open_any2 (a : Option Addr) (len cap : Nat) (f : Nat → UInt8) (at_ : Int) (w : World) (hl : Bytes w a len f) (hc : len ≤ cap) (hm : cap ≤ 9223372036854775807) (hml : len ≤ 140737488355328) (ha1 : -9223372036854775808 ≤ at_) (ha2 : at_ ≤ 9223372036854775807) (hq : Quart w) :
    Calls Tryd.prog 11 #[.slice a len cap, .int .i64 at_] w fun e w' => Below w.heap.size w w' ∧ ∃ v', e = .returned (.tuple #[v', .int .i64 (opnT f len at_), errV (opnE f len at_)]) ∧
      w'.ownsRow w.heap.size 5 1 v' (opnN f len at_) ((List.range (opnN f len at_)).map fun i => u8v (opnF f at_ i)) := by
  by_cases ho : at_ < 0 ∨ (len : Int) < at_ + 8
  · have he := opnE_out f len at_ ho
    refine (open_out a len cap f at_ w (by omega) ha1 ha2 ho).mono ?_
    rintro e w' ⟨rfl, rfl⟩
    refine ⟨Below.refl _ _, .slice none 0 0, ?_, ?_⟩
    · unfold opnT errV; rw [he, if_neg (by decide), if_neg (by decide)]; rfl
    · unfold opnN; rw [he, if_neg (by decide)]; exact World.ownsRow_nil _ _ _ _
  · obtain ⟨k, rfl⟩ : ∃ k : Nat, at_ = (k : Int) := ⟨at_.toNat, by omega⟩
    obtain ⟨b, o, rfl, -⟩ := hl 0 (by omega)
    refine (open_in2 b o len cap k f w hl hc hm hml (by omega) hq).mono ?_
    rintro e w' ⟨hB, h⟩
    refine ⟨hB, ?_⟩
    rcases h with ⟨he, rfl⟩ | ⟨he, v', n, rfl, h1, h2, rfl, hown⟩
    · refine ⟨.slice none 0 0, ?_, ?_⟩
      · unfold opnT errV; rw [if_neg he, if_neg he]
      · unfold opnN; rw [if_neg he]; exact World.ownsRow_nil _ _ _ _
    · refine ⟨v', ?_, ?_⟩
      · unfold opnT errV opnN; rw [if_pos he, if_pos he, if_pos he]
        simp only [Int.toNat_natCast]
        rw [show ((k + 8 + (wordN fun i => f (k + i)) : Nat) : Int) = (k : Int) + 8 + ((wordN fun i => f (k + i) : Nat) : Int) by omega]
      · unfold opnN opnF; rw [if_pos he]
        simp only [Int.toNat_natCast]
        exact hown


end Go.Proofs.YtafighjlciglpaaDoor
