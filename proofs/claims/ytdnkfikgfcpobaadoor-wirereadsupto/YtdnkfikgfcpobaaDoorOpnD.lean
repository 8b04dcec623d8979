import Derived.Test.YtdnkfikgfcpobaaDoorOpnC
import Derived.Laws.BytesArg
namespace Go.Proofs.YtdnkfikgfcpobaaDoor
open Go.RowKit
set_option linter.unusedVariables false
set_option maxRecDepth 100000

/-- The text of 'n' bytes. -/
def bstr (f : Nat → UInt8) (n : Nat) : ByteArray := ⟨((List.range n).map f).toArray⟩
theorem bstr_eq (f g : Nat → UInt8) (n : Nat) : bstr f n = bstr g n ↔ ∀ i, i < n → f i = g i := by
  unfold bstr
  constructor
  · intro h i hi
    have h1 : (List.range n).map f = (List.range n).map g := by simpa using h
    have := congrArg (fun l => l[i]?) h1
    simpa [hi] using this
  · intro h
    congr 2
    exact List.map_congr_left fun i hi => h i (by simpa using hi)
theorem toList_inj {s t : ByteArray} (h : s.toList = t.toList) : s = t := by
  rw [ByteArray.toList_eq, ByteArray.toList_eq] at h
  apply ByteArray.ext
  exact Array.toList_inj.1 h
theorem beq_str {s t : ByteArray} (h : s = t) : (s.toList == t.toList) = true := by rw [h]; exact beq_self_eq_true _
theorem bne_str {s t : ByteArray} (h : ¬ s = t) : (s.toList == t.toList) = false := by
  cases he : (s.toList == t.toList)
  · rfl
  · exact absurd (toList_inj (eq_of_beq he)) h
theorem conv_bytes (w : World) (a : Option Addr) (len cap : Nat) (f : Nat → UInt8) (h : Bytes w a len f) :
    (convert 22 9 (.slice a len cap)).run Tryd.prog w = .ok (.string (bstr f len)) w := by
  cases a with
  | none =>
    have h0 : len = 0 := by
      rcases Nat.eq_zero_or_pos len with h0 | h0
      · exact h0
      · obtain ⟨b, o, e, _⟩ := h 0 h0; cases e
    subst h0
    exact run_convert_bytes_nil (P := Tryd.prog) w 22 5 Tryd.underlying22 Tryd.underlying5 0 cap 9 Tryd.underlying9
  | some a =>
    have := run_convert_bytes_back (P := Tryd.prog) w 22 9 5 a cap ((List.range len).map f) Tryd.underlying22 Tryd.underlying5 Tryd.underlying9 (by
      intro j hj
      obtain ⟨b, o, e, hc⟩ := h j (by simpa using hj)
      cases e
      rw [WideShapes.add_plain, hc]
      simp)
    simp only [List.length_map, List.length_range] at this
    exact this

set_option maxHeartbeats 4000000 in
theorem refOpen_out (a : Option Addr) (len cap : Nat) (at_ : Int) (w : World) (hm : len ≤ 140737488355328) (ha1 : -9223372036854775808 ≤ at_) (ha2 : at_ ≤ 9223372036854775807) (ho : at_ < 0 ∨ (len : Int) < at_ + 8) :
    Calls Tryd.prog 20 #[.slice a len cap, .int .i64 at_] w fun e w' => e = .returned (.tuple #[.slice none 0 0, .int .i64 0, .int .i64 7]) ∧ w' = w := by
  go_enter Tryd.func20, Tryd.ntmps20
  by_cases h0 : at_ < 0
  · go_wp2
    go_ret3
    exact ⟨rfl, rfl⟩
  · by_cases h1 : (len : Int) < at_
    · go_wp2
      go_ret3
      exact ⟨rfl, rfl⟩
    · have h2 : (len : Int) - at_ < 8 := by omega
      go_wp2
      go_ret3
      exact ⟨rfl, rfl⟩

theorem slice_lh (b o len cap k n : Nat) (hn : k + 8 + n ≤ cap) (o' : Nat) (eA : (if cap = k + 8 then some (Addr.mk b o none) else some (Addr.mk b (o + (k + 8)) none)) = some (Addr.mk b o' none)) (W : World) :
    (Instr.slice 22 (.slice (some ⟨b, o, none⟩) len cap) (some (.int .i64 ((k : Int) + 8))) (some (.int .i64 ((k : Int) + 8 + (n : Int)))) none).run Tryd.prog W = .ok (.slice (some ⟨b, o', none⟩) n (cap - (k + 8))) W := by
  rw [run_slice_lh (P := Tryd.prog) W 22 (some ⟨b, o, none⟩) len cap (Tryd.underlying22.trans (by kernel_rfl)) .i64 .i64 _ _ (by omega) (by omega) (by omega)]
  rw [show ((k : Int) + 8).toNat = k + 8 by omega, show ((k : Int) + 8 + (n : Int)).toNat = k + 8 + n by omega]
  have hs : (sizeOf (Tryd.prog.elem 22)).run Tryd.prog W = .ok 1 W := by
    rw [show Tryd.prog.elem 22 = 5 by kernel_rfl]; exact Tryd.sizeOf5 W
  rw [hs]
  simp only [Result.andThen, sliced, Nat.mul_one, Option.map]
  rw [show ∀ j, (Addr.mk b o none).add j = Addr.mk b (o + j) none from fun j => WideShapes.add_plain .., eA, Nat.add_sub_cancel_left]
theorem sliceAt_lh (b o len cap k n : Nat) (hn : k + 8 + n ≤ cap) (o' : Nat) (eA : (if cap = k + 8 then some (Addr.mk b o none) else some (Addr.mk b (o + (k + 8)) none)) = some (Addr.mk b o' none)) (W : World) :
    (Instr.sliceAt 22 (.slice (some ⟨b, o, none⟩) len cap) (some (.int .i64 ((k : Int) + 8))) (some (.int .i64 ((k : Int) + 8 + (n : Int)))) none).run Tryd.prog W = .ok (.slice (some ⟨b, o', none⟩) n (cap - (k + 8))) W := by
  rw [run_sliceAt_slice W 22 _ _ _ _ (Tryd.underlying22.trans (by kernel_rfl))]
  exact slice_lh b o len cap k n hn o' eA W
theorem slice_48 (b o len cap k : Nat) (hn : k + 8 ≤ cap) (W : World) :
    (Instr.slice 22 (.slice (some ⟨b, o, none⟩) len cap) (some (.int .i64 ((k : Int) + 4))) (some (.int .i64 ((k : Int) + 8))) none).run Tryd.prog W = .ok (.slice (some ⟨b, o + (k + 4), none⟩) 4 (cap - (k + 4))) W := by
  rw [run_slice_lh (P := Tryd.prog) W 22 (some ⟨b, o, none⟩) len cap (Tryd.underlying22.trans (by kernel_rfl)) .i64 .i64 _ _ (by omega) (by omega) (by omega)]
  rw [show ((k : Int) + 4).toNat = k + 4 by omega, show ((k : Int) + 8).toNat = k + 8 by omega]
  have hs : (sizeOf (Tryd.prog.elem 22)).run Tryd.prog W = .ok 1 W := by
    rw [show Tryd.prog.elem 22 = 5 by kernel_rfl]; exact Tryd.sizeOf5 W
  rw [hs]
  simp only [Result.andThen, sliced, Nat.mul_one, Option.map]
  rw [show ∀ j, (Addr.mk b o none).add j = Addr.mk b (o + j) none from fun j => WideShapes.add_plain .., if_neg (by omega), show k + 8 - (k + 4) = 4 by omega]
theorem sliceAt_48 (b o len cap k : Nat) (hn : k + 8 ≤ cap) (W : World) :
    (Instr.sliceAt 22 (.slice (some ⟨b, o, none⟩) len cap) (some (.int .i64 ((k : Int) + 4))) (some (.int .i64 ((k : Int) + 8))) none).run Tryd.prog W = .ok (.slice (some ⟨b, o + (k + 4), none⟩) 4 (cap - (k + 4))) W := by
  rw [run_sliceAt_slice W 22 _ _ _ _ (Tryd.underlying22.trans (by kernel_rfl))]
  exact slice_48 b o len cap k hn W
theorem wordN_at (f : Nat → UInt8) (k : Nat) : (wordN fun i => f (k + i)) = (f k).toNat * 16777216 + (f (k + 1)).toNat * 65536 + (f (k + 2)).toNat * 256 + (f (k + 3)).toNat := by
  simp only [wordN, Nat.add_zero]
theorem wordN_int (x0 x1 x2 x3 : Nat) : (x0 : Int) * 16777216 + (x1 : Int) * 65536 + (x2 : Int) * 256 + (x3 : Int) = ((x0 * 16777216 + x1 * 65536 + x2 * 256 + x3 : Nat) : Int) := by omega

set_option maxHeartbeats 4000000 in
theorem refOpen_in (b o len cap k : Nat) (f : Nat → UInt8) (w : World) (hl : Bytes w (some ⟨b, o, none⟩) len f) (hc : len ≤ cap) (hm : cap ≤ 140737488355328) (hk : k + 8 ≤ len) :
    Calls Tryd.prog 20 #[.slice (some ⟨b, o, none⟩) len cap, .int .i64 (k : Int)] w fun e w' => Below w.heap.size w w' ∧
      ((opnE f len k ≠ 0 ∧ e = .returned (.tuple #[.slice none 0 0, .int .i64 0, .int .i64 (opnE f len k : Nat)])) ∨
       (opnE f len k = 0 ∧ ∃ a' n c', n = (wordN fun i => f (k + i)) ∧ k + 8 + n ≤ len ∧ n ≤ 134217728 ∧ e = .returned (.tuple #[.slice a' n c', .int .i64 ((k + 8 + n : Nat) : Int), .int .i64 0]) ∧ Bytes w' a' n (fun i => f (k + 8 + i)))) := by
  obtain ⟨b0, o0, e0, c0⟩ := hl k (by omega)
  obtain ⟨b1, o1, e1, c1⟩ := hl (k + 1) (by omega)
  obtain ⟨b2, o2, e2, c2⟩ := hl (k + 2) (by omega)
  obtain ⟨b3, o3, e3, c3⟩ := hl (k + 3) (by omega)
  cases e0; cases e1; cases e2; cases e3
  have HE : Hid (_) := opnE_in f len k hk
  have hn1 := wordN_lt fun i => f (k + i)
  have HN : Hid _ := wordN_at f k
  generalize wordN (fun i => f (k + i)) = n at *
  have t0 := UInt8.toNat_lt (f k)
  have t1 := UInt8.toNat_lt (f (k + 1))
  have t2 := UInt8.toNat_lt (f (k + 2))
  have t3 := UInt8.toNat_lt (f (k + 3))
  generalize (f k).toNat = x0 at *
  generalize (f (k + 1)).toNat = x1 at *
  generalize (f (k + 2)).toNat = x2 at *
  generalize (f (k + 3)).toNat = x3 at *
  have p0 : (0 : Int) ≤ (x0 : Int) := by omega
  have p1 : (x0 : Int) ≤ 255 := by omega
  have p2 : (0 : Int) ≤ (x1 : Int) := by omega
  have p3 : (x1 : Int) ≤ 255 := by omega
  have p4 : (0 : Int) ≤ (x2 : Int) := by omega
  have p5 : (x2 : Int) ≤ 255 := by omega
  have p6 : (0 : Int) ≤ (x3 : Int) := by omega
  have p7 : (x3 : Int) ≤ 255 := by omega
  have HL : Hid (Bytes w (some ⟨b, o, none⟩) len f) := hl
  have k0 : (0 : Int) ≤ (k : Int) := by omega
  have k1 : (k : Int) ≤ (len : Int) := by omega
  have k2 : (k : Int) + 1 < (len : Int) := by omega
  have k3 : (k : Int) + 2 < (len : Int) := by omega
  have k4 : (k : Int) + 3 < (len : Int) := by omega
  have k5 : (len : Int) ≤ (cap : Int) := by omega
  have k6 : (cap : Int) ≤ 140737488355328 := by omega
  have k7 : (8 : Int) ≤ (len : Int) - (k : Int) := by omega
  have k8 : (k : Int) < (len : Int) := by omega
  have k9 : (k : Int) + 4 ≤ (k : Int) + 8 := by omega
  have k10 : (k : Int) + 8 ≤ (cap : Int) := by omega
  clear hl
  go_enter Tryd.func20, Tryd.ntmps20
  go_wp2
  go_quiet (fail)
  rw [wordN_int, ← HN.out]
  generalize (x0 : Int) * 16777216 + (x1 : Int) * 65536 + (x2 : Int) * 256 = z4
  generalize (x0 : Int) * 16777216 + (x1 : Int) * 65536 = z3
  generalize (x0 : Int) * 16777216 = z0
  generalize (x1 : Int) * 65536 = z1
  generalize (x2 : Int) * 256 = z2
  clear HN c0 c1 c2 c3 p0 p1 p2 p3 p4 p5 p6 p7 t0 t1 t2 t3
  by_cases g1 : (134217728 : Int) < (n : Int)
  · have he : Hid (opnE f len k = 7) := by rw [Hid, HE.out, if_pos (by omega)]
    go_wp2
    go_ret3
    rw [he.out]
    exact ⟨below_drewN (Below.refl _ _) _, .inl ⟨by decide, rfl⟩⟩
  have g1' : (n : Int) ≤ 134217728 := by omega
  by_cases g2 : (len : Int) - (k : Int) - 8 < (n : Int)
  · have he : Hid (opnE f len k = 7) := by rw [Hid, HE.out, if_pos (by omega)]
    go_wp2
    go_ret3
    rw [he.out]
    exact ⟨below_drewN (Below.refl _ _) _, .inl ⟨by decide, rfl⟩⟩
  have g2' : (k : Int) + 8 + (n : Int) ≤ (len : Int) := by omega
  have HE' : Hid (opnE f len k = if sumN (fun i => f (k + 8 + i)) n = wordN (fun i => f (k + 4 + i)) then 0 else 8) := by rw [Hid, HE.out, if_neg (by omega)]
  clear HE
  have hA : ∃ o', (if cap = k + 8 then some (Addr.mk b o none) else some (Addr.mk b (o + (k + 8)) none)) = some (Addr.mk b o' none) ∧ Bytes w (some ⟨b, o', none⟩) n fun i => f (k + 8 + i) := by
    by_cases hck : cap = k + 8
    · exact ⟨o, by rw [if_pos hck], fun i hi => absurd hi (by omega)⟩
    · exact ⟨o + (k + 8), by rw [if_neg hck], HL.out.from (k + 8) n (by omega)⟩
  obtain ⟨o', eA, hR⟩ := hA
  have hS := sliceAt_lh b o len cap k n (by omega) o' eA
  have hS' := slice_lh b o len cap k n (by omega) o' eA
  have HR : Hid (Bytes (w.drewN nq) (some ⟨b, o', none⟩) n fun i => f (k + 8 + i)) := hR.later (below_drewN (Below.refl _ _) _)
  clear eA hR
  go_wp2_with fail
  clear hS hS'
  refine (refSum_any (some ⟨b, o', none⟩) n (cap - (k + 8)) (fun i => f (k + 8 + i)) _ HR.out (by unfold maxLen; omega)).mono ?_
  rintro e w1 ⟨rfl, e1⟩
  have e1' := e1.symm
  subst e1'
  clear e1
  have hs := sumN_lt (fun i => f (k + 8 + i)) n
  generalize sumN (fun i => f (k + 8 + i)) n = s at *
  go_wp2_with fail
  refine (refWord_any s _ hs).mono ?_
  rintro e w1 ⟨rfl, hW, hB⟩
  have HB : Hid (Below w.heap.size w w1) := (below_drewN (Below.refl _ _) nq).trans hB
  have V1 : ∀ q, (convert 22 9 (.slice (some ⟨w.heap.size, 0, none⟩) 4 4)).run Tryd.prog (w1.drewN q) = .ok (.string (bstr (wb s) 4)) (w1.drewN q) := fun q => conv_bytes _ _ _ _ _ (hW.later (below_drewN (Below.refl _ _) q))
  have V2 : ∀ q, (convert 22 9 (.slice (some ⟨b, o + (k + 4), none⟩) 4 (cap - (k + 4)))).run Tryd.prog (w1.drewN q) = .ok (.string (bstr (fun i => f (k + 4 + i)) 4)) (w1.drewN q) := fun q => conv_bytes _ _ _ _ _ ((HL.out.from (k + 4) 4 (by omega)).later (below_drewN HB.out q))
  have hX : bstr (wb s) 4 = bstr (fun i => f (k + 4 + i)) 4 ↔ s = wordN fun i => f (k + 4 + i) := by
    rw [bstr_eq, eq_comm (a := s)]
    exact (wb_word _ s hs).symm
  have HR' : Hid (Bytes w1 (some ⟨b, o', none⟩) n fun i => f (k + 8 + i)) := HR.out.later hB
  have hS := sliceAt_48 b o len cap k (by omega)
  have hS' := slice_48 b o len cap k (by omega)
  clear hB hW HR HL
  generalize bstr (wb s) 4 = S1 at *
  generalize bstr (fun i => f (k + 4 + i)) 4 = S2 at *
  go_wp2
  go_quiet (fail)
  clear V1 V2 hS hS'
  by_cases hcs : s = wordN fun i => f (k + 4 + i)
  · rw [beq_str (hX.2 hcs)]
    have he : Hid (opnE f len k = 0) := by rw [Hid, HE'.out, if_pos hcs]
    clear HE' hX
    go_wp2
    go_ret3
    refine ⟨below_drewN HB.out _, .inr ⟨he.out, some ⟨b, o', none⟩, n, cap - (k + 8), rfl, by omega, by omega, ?_, HR'.out.later (below_drewN (Below.refl _ _) _)⟩⟩
    rw [show ((k + 8 + n : Nat) : Int) = (k : Int) + 8 + (n : Int) by omega]
    rfl
  · rw [bne_str fun h => hcs (hX.1 h)]
    have he : Hid (opnE f len k = 8) := by rw [Hid, HE'.out, if_neg hcs]
    clear HE' hX
    go_wp2
    go_ret3
    rw [he.out]
    exact ⟨below_drewN HB.out _, .inl ⟨by decide, rfl⟩⟩
end Go.Proofs.YtdnkfikgfcpobaaDoor
