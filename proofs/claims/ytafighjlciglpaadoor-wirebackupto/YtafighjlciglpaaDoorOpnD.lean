import Derived.Test.YtafighjlciglpaaDoorOpnC
import Derived.Laws.BytesArg
namespace Go.Proofs.YtafighjlciglpaaDoor
open Go.RowKit
set_option linter.unusedVariables false
set_option maxRecDepth 100000

/-- The text of 'n' bytes. -/
def bstr (f : Nat → UInt8) (n : Nat) : ByteArray := ⟨((List.range n).map f).toArray⟩
theorem bstr_eq (f g : Nat → UInt8) (n : Nat) : bstr f n = bstr g n ↔ ∀ i, i < n → f i = g i := by
  unfold bstr
  constructor
  · intro h i hi
    have h1 : (List.range n).map f = (List.range n).map g := by simpa using h
    have := congrArg (fun l => l[i]?) h1
    simpa [hi] using this
  · intro h
    congr 2
    exact List.map_congr_left fun i hi => h i (by simpa using hi)
theorem toList_inj {s t : ByteArray} (h : s.toList = t.toList) : s = t := by
  rw [ByteArray.toList_eq, ByteArray.toList_eq] at h
  apply ByteArray.ext
  exact Array.toList_inj.1 h
theorem beq_str {s t : ByteArray} (h : s = t) : (s.toList == t.toList) = true := by rw [h]; exact beq_self_eq_true _
theorem bne_str {s t : ByteArray} (h : ¬ s = t) : (s.toList == t.toList) = false := by
  cases he : (s.toList == t.toList)
  · rfl
  · exact absurd (toList_inj (eq_of_beq he)) h
theorem conv_bytes (w : World) (a : Option Addr) (len cap : Nat) (f : Nat → UInt8) (h : Bytes w a len f) :
    (convert 22 9 (.slice a len cap)).run Tryd.prog w = .ok (.string (bstr f len)) w := by
  cases a with
  | none =>
    have h0 : len = 0 := by
      rcases Nat.eq_zero_or_pos len with h0 | h0
      · exact h0
      · obtain ⟨b, o, e, _⟩ := h 0 h0; cases e
    subst h0
    exact run_convert_bytes_nil (P := Tryd.prog) w 22 5 Tryd.underlying22 Tryd.underlying5 0 cap 9 Tryd.underlying9
  | some a =>
    have := run_convert_bytes_back (P := Tryd.prog) w 22 9 5 a cap ((List.range len).map f) Tryd.underlying22 Tryd.underlying5 Tryd.underlying9 (by
      intro j hj
      obtain ⟨b, o, e, hc⟩ := h j (by simpa using hj)
      cases e
      rw [WideShapes.add_plain, hc]
      simp)
    simp only [List.length_map, List.length_range] at this
    exact this

theorem slice_lh (b o len cap k n : Nat) (hn : k + 8 + n ≤ cap) (o' : Nat) (eA : (if cap = k + 8 then some (Addr.mk b o none) else some (Addr.mk b (o + (k + 8)) none)) = some (Addr.mk b o' none)) (W : World) :
    (Instr.slice 22 (.slice (some ⟨b, o, none⟩) len cap) (some (.int .i64 ((k : Int) + 8))) (some (.int .i64 ((k : Int) + 8 + (n : Int)))) none).run Tryd.prog W = .ok (.slice (some ⟨b, o', none⟩) n (cap - (k + 8))) W := by
  rw [run_slice_lh (P := Tryd.prog) W 22 (some ⟨b, o, none⟩) len cap (Tryd.underlying22.trans (by kernel_rfl)) .i64 .i64 _ _ (by omega) (by omega) (by omega)]
  rw [show ((k : Int) + 8).toNat = k + 8 by omega, show ((k : Int) + 8 + (n : Int)).toNat = k + 8 + n by omega]
  have hs : (sizeOf (Tryd.prog.elem 22)).run Tryd.prog W = .ok 1 W := by
    rw [show Tryd.prog.elem 22 = 5 by kernel_rfl]; exact Tryd.sizeOf5 W
  rw [hs]
  simp only [Result.andThen, sliced, Nat.mul_one, Option.map]
  rw [show ∀ j, (Addr.mk b o none).add j = Addr.mk b (o + j) none from fun j => WideShapes.add_plain .., eA, Nat.add_sub_cancel_left]
theorem sliceAt_lh (b o len cap k n : Nat) (hn : k + 8 + n ≤ cap) (o' : Nat) (eA : (if cap = k + 8 then some (Addr.mk b o none) else some (Addr.mk b (o + (k + 8)) none)) = some (Addr.mk b o' none)) (W : World) :
    (Instr.sliceAt 22 (.slice (some ⟨b, o, none⟩) len cap) (some (.int .i64 ((k : Int) + 8))) (some (.int .i64 ((k : Int) + 8 + (n : Int)))) none).run Tryd.prog W = .ok (.slice (some ⟨b, o', none⟩) n (cap - (k + 8))) W := by
  rw [run_sliceAt_slice W 22 _ _ _ _ (Tryd.underlying22.trans (by kernel_rfl))]
  exact slice_lh b o len cap k n hn o' eA W
theorem slice_48 (b o len cap k : Nat) (hn : k + 8 ≤ cap) (W : World) :
    (Instr.slice 22 (.slice (some ⟨b, o, none⟩) len cap) (some (.int .i64 ((k : Int) + 4))) (some (.int .i64 ((k : Int) + 8))) none).run Tryd.prog W = .ok (.slice (some ⟨b, o + (k + 4), none⟩) 4 (cap - (k + 4))) W := by
  rw [run_slice_lh (P := Tryd.prog) W 22 (some ⟨b, o, none⟩) len cap (Tryd.underlying22.trans (by kernel_rfl)) .i64 .i64 _ _ (by omega) (by omega) (by omega)]
  rw [show ((k : Int) + 4).toNat = k + 4 by omega, show ((k : Int) + 8).toNat = k + 8 by omega]
  have hs : (sizeOf (Tryd.prog.elem 22)).run Tryd.prog W = .ok 1 W := by
    rw [show Tryd.prog.elem 22 = 5 by kernel_rfl]; exact Tryd.sizeOf5 W
  rw [hs]
  simp only [Result.andThen, sliced, Nat.mul_one, Option.map]
  rw [show ∀ j, (Addr.mk b o none).add j = Addr.mk b (o + j) none from fun j => WideShapes.add_plain .., if_neg (by omega), show k + 8 - (k + 4) = 4 by omega]
theorem sliceAt_48 (b o len cap k : Nat) (hn : k + 8 ≤ cap) (W : World) :
    (Instr.sliceAt 22 (.slice (some ⟨b, o, none⟩) len cap) (some (.int .i64 ((k : Int) + 4))) (some (.int .i64 ((k : Int) + 8))) none).run Tryd.prog W = .ok (.slice (some ⟨b, o + (k + 4), none⟩) 4 (cap - (k + 4))) W := by
  rw [run_sliceAt_slice W 22 _ _ _ _ (Tryd.underlying22.trans (by kernel_rfl))]
  exact slice_48 b o len cap k hn W
theorem wordN_at (f : Nat → UInt8) (k : Nat) : (wordN fun i => f (k + i)) = (f k).toNat * 16777216 + (f (k + 1)).toNat * 65536 + (f (k + 2)).toNat * 256 + (f (k + 3)).toNat := by
  simp only [wordN, Nat.add_zero]
theorem wordN_int (x0 x1 x2 x3 : Nat) : (x0 : Int) * 16777216 + (x1 : Int) * 65536 + (x2 : Int) * 256 + (x3 : Int) = ((x0 * 16777216 + x1 * 65536 + x2 * 256 + x3 : Nat) : Int) := by omega

end Go.Proofs.YtafighjlciglpaaDoor
