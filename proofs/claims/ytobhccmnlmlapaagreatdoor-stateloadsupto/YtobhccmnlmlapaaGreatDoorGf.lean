import Derived.Test.YtobhccmnlmlapaaGreatDoorGe
import Derived.Test.YtobhccmnlmlapaaGreatDoorQShelf
import Derived.Sort.AtCall
import Derived.Laws.BytesArg
import Derived.Deep.AppendLies
namespace Go.Proofs.YtobhccmnlmlapaaGreatDoor.Wr
open Go.RowKit
set_option linter.unusedVariables false
set_option maxRecDepth 100000

/-- What is wrong with the sealed body at a place (0: nothing). -/
def opnE (f : Nat → UInt8) (len : Nat) (at_ : Int) : Nat :=
  if at_ < 0 ∨ (len : Int) < at_ + 8 then 7
  else
    let k := at_.toNat
    let n := wordN fun i => f (k + i)
    if 134217728 < n ∨ len < k + 8 + n then 7
    else if sumN (fun i => f (k + 8 + i)) n = wordN (fun i => f (k + 4 + i)) then 0 else 8

theorem opnE_out (f : Nat → UInt8) (len : Nat) (at_ : Int) (h : at_ < 0 ∨ (len : Int) < at_ + 8) : opnE f len at_ = 7 := by unfold opnE; rw [if_pos h]
theorem opnE_in (f : Nat → UInt8) (len k : Nat) (h : k + 8 ≤ len) : opnE f len (k : Int) = (if 134217728 < (wordN fun i => f (k + i)) ∨ len < k + 8 + (wordN fun i => f (k + i)) then 7 else if sumN (fun i => f (k + 8 + i)) (wordN fun i => f (k + i)) = wordN (fun i => f (k + 4 + i)) then 0 else 8) := by
  unfold opnE
  rw [if_neg (by omega)]
  simp only [Int.toNat_natCast]

theorem Bytes.from {w : World} {b o len : Nat} {f : Nat → UInt8} (h : Bytes w (some ⟨b, o, none⟩) len f) (k m : Nat) (hk : k + m ≤ len) : Bytes w (some ⟨b, o + k, none⟩) m (fun i => f (k + i)) := by
  intro i hi
  obtain ⟨b', o', e, hc⟩ := h (k + i) (by omega)
  cases e
  exact ⟨b, o + k, rfl, by rw [Nat.add_assoc]; exact hc⟩
theorem wordN_lt (f : Nat → UInt8) : wordN f < 4294967296 := by
  unfold wordN
  have t0 := UInt8.toNat_lt (f 0)
  have t1 := UInt8.toNat_lt (f 1)
  have t2 := UInt8.toNat_lt (f 2)
  have t3 := UInt8.toNat_lt (f 3)
  omega

set_option maxHeartbeats 4000000 in
theorem open_out (a : Option Addr) (len cap : Nat) (f : Nat → UInt8) (at_ : Int) (w : World) (hm : len ≤ 140737488355328) (ha1 : -9223372036854775808 ≤ at_) (ha2 : at_ ≤ 9223372036854775807) (ho : at_ < 0 ∨ (len : Int) < at_ + 8) :
    Calls Tryz.prog 68 #[.slice a len cap, .int .i64 at_] w fun e w' => e = .returned (.tuple #[.slice none 0 0, .int .i64 0, .iface 28 (.int .i64 7)]) ∧ w' = w := by
  go_enter Tryz.func68, Tryz.ntmps68
  by_cases h0 : at_ < 0
  · go_wp2
    go_ret3
    exact ⟨rfl, rfl⟩
  · have h1 : (len : Int) - 8 < at_ := by omega
    go_wp2
    go_ret3
    exact ⟨rfl, rfl⟩

set_option maxHeartbeats 4000000 in
theorem open_in (b o len cap k : Nat) (f : Nat → UInt8) (w : World) (hl : Bytes w (some ⟨b, o, none⟩) len f) (hc : len ≤ cap) (hm : cap ≤ 140737488355328) (hk : k + 8 ≤ len) (hq : Quart w) :
    Calls Tryz.prog 68 #[.slice (some ⟨b, o, none⟩) len cap, .int .i64 (k : Int)] w fun e w' => Below w.heap.size w w' ∧
      ((opnE f len k ≠ 0 ∧ e = .returned (.tuple #[.slice none 0 0, .int .i64 0, .iface 28 (.int .i64 (opnE f len k : Nat))])) ∨
       (opnE f len k = 0 ∧ ∃ v' n, n = (wordN fun i => f (k + i)) ∧ k + 8 + n ≤ len ∧ n ≤ 134217728 ∧ e = .returned (.tuple #[v', .int .i64 ((k + 8 + n : Nat) : Int), .nilIface]) ∧ w'.ownsRow w.heap.size 5 1 v' n ((List.range n).map fun i => u8v (f (k + 8 + i))))) := by
  have HB1 := hl.from k (len - k) (by omega)
  have HB2 := hl.from (k + 4) (len - (k + 4)) (by omega)
  have HE : Hid (_) := opnE_in f len k hk
  have hn1 := wordN_lt fun i => f (k + i)
  have hn2 := wordN_lt fun i => f (k + 4 + i)
  have W1 := fun W hW => word_any (some ⟨b, o + k, none⟩) (len - k) (cap - k) (fun i => f (k + i)) W hW (by omega) (by unfold maxLen; omega)
  have W2 := fun W hW => word_any (some ⟨b, o + (k + 4), none⟩) (len - (k + 4)) (cap - (k + 4)) (fun i => f (k + 4 + i)) W hW (by omega) (by unfold maxLen; omega)
  generalize wordN (fun i => f (k + i)) = n at *
  generalize wordN (fun i => f (k + 4 + i)) = s at *
  have W1' : Hid (∀ m, Calls Tryz.prog 95 #[.slice (some ⟨b, o + k, none⟩) (len - k) (cap - k)] (w.drewN m) fun e w' => e = .returned (.int .u32 (n : Int)) ∧ ∃ q, w' = (w.drewN m).drewN q) := fun m => W1 _ (HB1.later (below_drewN (Below.refl _ _) _))
  have W2' : Hid (∀ m, Calls Tryz.prog 95 #[.slice (some ⟨b, o + (k + 4), none⟩) (len - (k + 4)) (cap - (k + 4))] (w.drewN m) fun e w' => e = .returned (.int .u32 (s : Int)) ∧ ∃ q, w' = (w.drewN m).drewN q) := fun m => W2 _ (HB2.later (below_drewN (Below.refl _ _) _))
  clear W1 W2 HB1 HB2
  have HL : Hid (Bytes w (some ⟨b, o, none⟩) len f) := hl
  have HQ : Hid (Quart w) := hq
  have k0 : (0 : Int) ≤ (k : Int) := by omega
  have k1 : ¬ ((len : Int) - 8 < (k : Int)) := by omega
  have k2 : (k : Int) ≤ (len : Int) := by omega
  have k3 : (k : Int) + 4 ≤ (len : Int) := by omega
  have k4 : (k : Int) + 8 ≤ (len : Int) := by omega
  have k5 : (len : Int) ≤ (cap : Int) := by omega
  have k6 : (cap : Int) ≤ 140737488355328 := by omega
  clear hl hq
  go_enter Tryz.func68, Tryz.ntmps68
  go_wp2
  go_quiet (first | (go_at_call_has 95 (len - k); refine Calls.quiet_of (W1'.out _)) | (go_at_call_has 95 (len - (k + 4)); refine Calls.quiet_of (W2'.out _)))
  clear W1' W2'
  have hA : ∃ o', (if cap = k + 8 then some (Addr.mk b o none) else some (Addr.mk b (o + (k + 8)) none)) = some (Addr.mk b o' none) ∧ Bytes w (some ⟨b, o', none⟩) (len - (k + 8)) fun i => f (k + 8 + i) := by
    by_cases hck : cap = k + 8
    · exact ⟨o, by rw [if_pos hck], fun i hi => absurd hi (by omega)⟩
    · exact ⟨o + (k + 8), by rw [if_neg hck], HL.out.from (k + 8) (len - (k + 8)) (by omega)⟩
  obtain ⟨o', eA, hR⟩ := hA
  rw [eA]
  clear eA HL
  have HR : Hid (Bytes (w.drewN nq) (some ⟨b, o', none⟩) (len - (k + 8)) fun i => f (k + 8 + i)) := hR.later (below_drewN (Below.refl _ _) _)
  have HQ' : Hid (Quart (w.drewN nq)) := HQ.out.later (below_drewN (Below.refl _ _) _)
  clear hR HQ
  by_cases g1 : (134217728 : Int) < (n : Int)
  · have he : Hid (opnE f len k = 7) := by rw [Hid, HE.out, if_pos (by omega)]
    go_wp2
    go_ret3
    rw [he.out]
    exact ⟨below_drewN (Below.refl _ _) _, .inl ⟨by decide, rfl⟩⟩
  have g1' : (n : Int) ≤ 134217728 := by omega
  by_cases g2 : ((len - (k + 8) : Nat) : Int) < (n : Int)
  · have he : Hid (opnE f len k = 7) := by rw [Hid, HE.out, if_pos (by omega)]
    go_wp2
    go_ret3
    rw [he.out]
    exact ⟨below_drewN (Below.refl _ _) _, .inl ⟨by decide, rfl⟩⟩
  have g2' : (n : Int) ≤ ((len - (k + 8) : Nat) : Int) := by omega
  have g3 : ((len - (k + 8) : Nat) : Int) ≤ ((cap - (k + 8) : Nat) : Int) := by omega
  have HE' : Hid (opnE f len k = if sumN (fun i => f (k + 8 + i)) n = s then 0 else 8) := by rw [Hid, HE.out, if_neg (by omega)]
  clear HE
  go_wp2_with fail
  refine (sum_any (some ⟨b, o', none⟩) n (cap - (k + 8)) (fun i => f (k + 8 + i)) _ (fun i hi => HR.out i (by omega)) (by unfold maxLen; omega) HQ'.out).mono ?_
  rintro e w1 ⟨rfl, e1⟩
  have e1' := e1.symm
  subst e1'
  clear e1
  by_cases hs : sumN (fun i => f (k + 8 + i)) n = s
  · have he : Hid (opnE f len k = 0) := by rw [Hid, HE'.out, if_pos hs]
    rw [hs]
    clear HE' HQ'
    go_wp2_with fail
    refine (Tryz.bytes_Clone_at ⟨b, o', none⟩ n (cap - (k + 8)) ((List.range n).map fun i => ((f (k + 8 + i)).toNat : Int)) _ (by simp) (by omega) ?_).mono ?_
    · intro i hi
      obtain ⟨b', o2, e, hc⟩ := HR.out i (by omega)
      cases e
      rw [WideShapes.add_plain, hc]
      simp [hi]
    rintro e w1 ⟨v', rfl, hown, -, hB⟩
    have HO : Hid (w1.ownsRow w.heap.size 5 1 v' n ((List.range n).map fun i => u8v (f (k + 8 + i)))) := by
      unfold Hid
      rw [List.map_map] at hown
      exact hown
    have HB : Hid (Below w.heap.size w w1) := (below_drewN (Below.refl _ _) nq).trans hB
    clear hown hB HR
    go_wp2
    go_ret3
    refine ⟨HB.out, .inr ⟨he.out, v', n, rfl, by omega, by omega, ?_, HO.out⟩⟩
    rw [show ((k + 8 + n : Nat) : Int) = (k : Int) + 8 + (n : Int) by omega]
    rfl
  · have he : Hid (opnE f len k = 8) := by rw [Hid, HE'.out, if_neg hs]
    have hs' : ¬ ((sumN (fun i => f (k + 8 + i)) n : Nat) : Int) = (s : Int) := by omega
    clear HE' HQ'
    go_wp2
    go_ret3
    rw [he.out]
    exact ⟨below_drewN (Below.refl _ _) _, .inl ⟨by decide, rfl⟩⟩
end Go.Proofs.YtobhccmnlmlapaaGreatDoor.Wr
namespace Go.Proofs.YtobhccmnlmlapaaGreatDoor.Wr
open Go.RowKit
set_option linter.unusedVariables false
set_option maxRecDepth 100000

/-- The text of 'n' bytes. -/
def bstr (f : Nat → UInt8) (n : Nat) : ByteArray := ⟨((List.range n).map f).toArray⟩
theorem bstr_eq (f g : Nat → UInt8) (n : Nat) : bstr f n = bstr g n ↔ ∀ i, i < n → f i = g i := by
  unfold bstr
  constructor
  · intro h i hi
    have h1 : (List.range n).map f = (List.range n).map g := by simpa using h
    have := congrArg (fun l => l[i]?) h1
    simpa [hi] using this
  · intro h
    congr 2
    exact List.map_congr_left fun i hi => h i (by simpa using hi)
theorem toList_inj {s t : ByteArray} (h : s.toList = t.toList) : s = t := by
  rw [ByteArray.toList_eq, ByteArray.toList_eq] at h
  apply ByteArray.ext
  exact Array.toList_inj.1 h
theorem beq_str {s t : ByteArray} (h : s = t) : (s.toList == t.toList) = true := by rw [h]; exact beq_self_eq_true _
theorem bne_str {s t : ByteArray} (h : ¬ s = t) : (s.toList == t.toList) = false := by
  cases he : (s.toList == t.toList)
  · rfl
  · exact absurd (toList_inj (eq_of_beq he)) h
theorem conv_bytes (w : World) (a : Option Addr) (len cap : Nat) (f : Nat → UInt8) (h : Bytes w a len f) :
    (convert 39 9 (.slice a len cap)).run Tryz.prog w = .ok (.string (bstr f len)) w := by
  cases a with
  | none =>
    have h0 : len = 0 := by
      rcases Nat.eq_zero_or_pos len with h0 | h0
      · exact h0
      · obtain ⟨b, o, e, _⟩ := h 0 h0; cases e
    subst h0
    exact run_convert_bytes_nil (P := Tryz.prog) w 39 5 Tryz.underlying39 Tryz.underlying5 0 cap 9 Tryz.underlying9
  | some a =>
    have := run_convert_bytes_back (P := Tryz.prog) w 39 9 5 a cap ((List.range len).map f) Tryz.underlying39 Tryz.underlying5 Tryz.underlying9 (by
      intro j hj
      obtain ⟨b, o, e, hc⟩ := h j (by simpa using hj)
      cases e
      rw [WideShapes.add_plain, hc]
      simp)
    simp only [List.length_map, List.length_range] at this
    exact this

theorem slice_lh (b o len cap k n : Nat) (hn : k + 8 + n ≤ cap) (o' : Nat) (eA : (if cap = k + 8 then some (Addr.mk b o none) else some (Addr.mk b (o + (k + 8)) none)) = some (Addr.mk b o' none)) (W : World) :
    (Instr.slice 39 (.slice (some ⟨b, o, none⟩) len cap) (some (.int .i64 ((k : Int) + 8))) (some (.int .i64 ((k : Int) + 8 + (n : Int)))) none).run Tryz.prog W = .ok (.slice (some ⟨b, o', none⟩) n (cap - (k + 8))) W := by
  rw [run_slice_lh (P := Tryz.prog) W 39 (some ⟨b, o, none⟩) len cap (Tryz.underlying39.trans (by kernel_rfl)) .i64 .i64 _ _ (by omega) (by omega) (by omega)]
  rw [show ((k : Int) + 8).toNat = k + 8 by omega, show ((k : Int) + 8 + (n : Int)).toNat = k + 8 + n by omega]
  have hs : (sizeOf (Tryz.prog.elem 39)).run Tryz.prog W = .ok 1 W := by
    rw [show Tryz.prog.elem 39 = 5 by kernel_rfl]; exact Tryz.sizeOf5 W
  rw [hs]
  simp only [Result.andThen, sliced, Nat.mul_one, Option.map]
  rw [show ∀ j, (Addr.mk b o none).add j = Addr.mk b (o + j) none from fun j => WideShapes.add_plain .., eA, Nat.add_sub_cancel_left]
theorem sliceAt_lh (b o len cap k n : Nat) (hn : k + 8 + n ≤ cap) (o' : Nat) (eA : (if cap = k + 8 then some (Addr.mk b o none) else some (Addr.mk b (o + (k + 8)) none)) = some (Addr.mk b o' none)) (W : World) :
    (Instr.sliceAt 39 (.slice (some ⟨b, o, none⟩) len cap) (some (.int .i64 ((k : Int) + 8))) (some (.int .i64 ((k : Int) + 8 + (n : Int)))) none).run Tryz.prog W = .ok (.slice (some ⟨b, o', none⟩) n (cap - (k + 8))) W := by
  rw [run_sliceAt_slice W 39 _ _ _ _ (Tryz.underlying39.trans (by kernel_rfl))]
  exact slice_lh b o len cap k n hn o' eA W
theorem slice_48 (b o len cap k : Nat) (hn : k + 8 ≤ cap) (W : World) :
    (Instr.slice 39 (.slice (some ⟨b, o, none⟩) len cap) (some (.int .i64 ((k : Int) + 4))) (some (.int .i64 ((k : Int) + 8))) none).run Tryz.prog W = .ok (.slice (some ⟨b, o + (k + 4), none⟩) 4 (cap - (k + 4))) W := by
  rw [run_slice_lh (P := Tryz.prog) W 39 (some ⟨b, o, none⟩) len cap (Tryz.underlying39.trans (by kernel_rfl)) .i64 .i64 _ _ (by omega) (by omega) (by omega)]
  rw [show ((k : Int) + 4).toNat = k + 4 by omega, show ((k : Int) + 8).toNat = k + 8 by omega]
  have hs : (sizeOf (Tryz.prog.elem 39)).run Tryz.prog W = .ok 1 W := by
    rw [show Tryz.prog.elem 39 = 5 by kernel_rfl]; exact Tryz.sizeOf5 W
  rw [hs]
  simp only [Result.andThen, sliced, Nat.mul_one, Option.map]
  rw [show ∀ j, (Addr.mk b o none).add j = Addr.mk b (o + j) none from fun j => WideShapes.add_plain .., if_neg (by omega), show k + 8 - (k + 4) = 4 by omega]
theorem sliceAt_48 (b o len cap k : Nat) (hn : k + 8 ≤ cap) (W : World) :
    (Instr.sliceAt 39 (.slice (some ⟨b, o, none⟩) len cap) (some (.int .i64 ((k : Int) + 4))) (some (.int .i64 ((k : Int) + 8))) none).run Tryz.prog W = .ok (.slice (some ⟨b, o + (k + 4), none⟩) 4 (cap - (k + 4))) W := by
  rw [run_sliceAt_slice W 39 _ _ _ _ (Tryz.underlying39.trans (by kernel_rfl))]
  exact slice_48 b o len cap k hn W
theorem wordN_at (f : Nat → UInt8) (k : Nat) : (wordN fun i => f (k + i)) = (f k).toNat * 16777216 + (f (k + 1)).toNat * 65536 + (f (k + 2)).toNat * 256 + (f (k + 3)).toNat := by
  simp only [wordN, Nat.add_zero]
theorem wordN_int (x0 x1 x2 x3 : Nat) : (x0 : Int) * 16777216 + (x1 : Int) * 65536 + (x2 : Int) * 256 + (x3 : Int) = ((x0 * 16777216 + x1 * 65536 + x2 * 256 + x3 : Nat) : Int) := by omega

end Go.Proofs.YtobhccmnlmlapaaGreatDoor.Wr
namespace Go.Proofs.YtobhccmnlmlapaaGreatDoor.Wr
open Go.RowKit
set_option linter.unusedVariables false
set_option maxRecDepth 100000

def opnN (f : Nat → UInt8) (len : Nat) (at_ : Int) : Nat := if opnE f len at_ = 0 then (wordN fun i => f (at_.toNat + i)) else 0
def opnT (f : Nat → UInt8) (len : Nat) (at_ : Int) : Int := if opnE f len at_ = 0 then at_ + 8 + (opnN f len at_ : Int) else 0
def opnF (f : Nat → UInt8) (at_ : Int) : Nat → UInt8 := fun i => f (at_.toNat + 8 + i)
def errV (e : Nat) : Value := if e = 0 then .nilIface else .iface 28 (.int .i64 (e : Int))

theorem own_later {w w' : World} {B e size n : Nat} {v : Value} {xs : List Value} (h : w.ownsRow B e size v n xs) (hb : Below w.heap.size w w') : w'.ownsRow B e size v n xs := by
  refine ⟨h.1, ?_⟩
  rcases h.2 with h2 | ⟨g, cap, cur, h1, h2, h3, h4⟩
  · exact .inl h2
  · refine .inr ⟨g, cap, cur, h1, h2, ?_, h4⟩
    have hlt : g < w.heap.size := by
      rcases Nat.lt_or_ge g w.heap.size with h | h
      · exact h
      · rw [Array.getElem?_eq_none h] at h3; cases h3
    rw [hb.block g hlt]; exact h3

theorem open_any (a : Option Addr) (len cap : Nat) (f : Nat → UInt8) (at_ : Int) (w : World) (hl : Bytes w a len f) (hc : len ≤ cap) (hm : cap ≤ 140737488355328) (ha1 : -9223372036854775808 ≤ at_) (ha2 : at_ ≤ 9223372036854775807) (hq : Quart w) :
    Calls Tryz.prog 68 #[.slice a len cap, .int .i64 at_] w fun e w' => Below w.heap.size w w' ∧ ∃ v', e = .returned (.tuple #[v', .int .i64 (opnT f len at_), errV (opnE f len at_)]) ∧
      w'.ownsRow w.heap.size 5 1 v' (opnN f len at_) ((List.range (opnN f len at_)).map fun i => u8v (opnF f at_ i)) := by
  by_cases ho : at_ < 0 ∨ (len : Int) < at_ + 8
  · have he := opnE_out f len at_ ho
    refine (open_out a len cap f at_ w (by omega) ha1 ha2 ho).mono ?_
    rintro e w' ⟨rfl, rfl⟩
    refine ⟨Below.refl _ _, .slice none 0 0, ?_, ?_⟩
    · unfold opnT errV; rw [he, if_neg (by decide), if_neg (by decide)]; rfl
    · unfold opnN; rw [he, if_neg (by decide)]; exact World.ownsRow_nil _ _ _ _
  · obtain ⟨k, rfl⟩ : ∃ k : Nat, at_ = (k : Int) := ⟨at_.toNat, by omega⟩
    obtain ⟨b, o, rfl, -⟩ := hl 0 (by omega)
    refine (open_in b o len cap k f w hl hc hm (by omega) hq).mono ?_
    rintro e w' ⟨hB, h⟩
    refine ⟨hB, ?_⟩
    rcases h with ⟨he, rfl⟩ | ⟨he, v', n, rfl, h1, h2, rfl, hown⟩
    · refine ⟨.slice none 0 0, ?_, ?_⟩
      · unfold opnT errV; rw [if_neg he, if_neg he]
      · unfold opnN; rw [if_neg he]; exact World.ownsRow_nil _ _ _ _
    · refine ⟨v', ?_, ?_⟩
      · unfold opnT errV opnN; rw [if_pos he, if_pos he, if_pos he]
        simp only [Int.toNat_natCast]
        rw [show ((k + 8 + (wordN fun i => f (k + i)) : Nat) : Int) = (k : Int) + 8 + ((wordN fun i => f (k + i) : Nat) : Int) by omega]
      · unfold opnN opnF; rw [if_pos he]
        simp only [Int.toNat_natCast]
        exact hown

theorem opnN_le (f : Nat → UInt8) (len : Nat) (at_ : Int) : opnN f len at_ ≤ len := by
  unfold opnN
  by_cases ho : at_ < 0 ∨ (len : Int) < at_ + 8
  · rw [if_neg (by rw [opnE_out f len at_ ho]; decide)]; omega
  · obtain ⟨k, rfl⟩ : ∃ k : Nat, at_ = (k : Int) := ⟨at_.toNat, by omega⟩
    rw [opnE_in f len k (by omega)]
    simp only [Int.toNat_natCast]
    by_cases h : 134217728 < (wordN fun i => f (k + i)) ∨ len < k + 8 + (wordN fun i => f (k + i))
    · rw [if_pos h, if_neg (by decide)]; omega
    · rw [if_neg h]
      by_cases h2 : sumN (fun i => f (k + 8 + i)) (wordN fun i => f (k + i)) = wordN (fun i => f (k + 4 + i))
      · rw [if_pos h2, if_pos rfl]; omega
      · rw [if_neg h2, if_neg (by decide)]; omega

theorem opnN_small (f : Nat → UInt8) (len : Nat) (at_ : Int) : opnN f len at_ ≤ 134217728 := by
  unfold opnN
  by_cases ho : at_ < 0 ∨ (len : Int) < at_ + 8
  · rw [if_neg (by rw [opnE_out f len at_ ho]; decide)]; omega
  · obtain ⟨k, rfl⟩ : ∃ k : Nat, at_ = (k : Int) := ⟨at_.toNat, by omega⟩
    rw [opnE_in f len k (by omega)]
    simp only [Int.toNat_natCast]
    by_cases h : 134217728 < (wordN fun i => f (k + i)) ∨ len < k + 8 + (wordN fun i => f (k + i))
    · rw [if_pos h, if_neg (by decide)]; omega
    · rw [if_neg h]
      by_cases h2 : sumN (fun i => f (k + 8 + i)) (wordN fun i => f (k + i)) = wordN (fun i => f (k + 4 + i))
      · rw [if_pos h2, if_pos rfl]; omega
      · rw [if_neg h2, if_neg (by decide)]; omega

theorem told_any (n : Nat) (w : World) (hg : Ety w) : Calls Tryz.prog 7 #[errV n] w fun e w' => e = .returned (.int .i64 (n : Int)) ∧ Below w.heap.size w w' := by
  unfold errV
  by_cases h : n = 0
  · rw [if_pos h]
    refine (told_nil w).mono ?_
    rintro e w' ⟨rfl, rfl⟩
    exact ⟨by rw [h]; rfl, Below.refl _ _⟩
  · rw [if_neg h]
    exact told_errno n w hg

/-- The cells of a row of one's own are the bytes. -/
theorem bytes_of_own {w : World} {B g n cap : Nat} {f : Nat → UInt8} (h : w.ownsRow B 5 1 (.slice (some ⟨g, 0, none⟩) n cap) n ((List.range n).map fun i => u8v (f i))) : Bytes w (some ⟨g, 0, none⟩) n f := by
  intro i hi
  refine ⟨g, 0, rfl, ?_⟩
  rw [Nat.zero_add, h.cellAt i (by omega)]
  simp [hi, u8v]
end Go.Proofs.YtobhccmnlmlapaaGreatDoor.Wr
