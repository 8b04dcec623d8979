import Derived.Test.YtafighjlciglpaaDoorRfD
import Derived.Test.YtafighjlciglpaaDoorRfS
import Derived.Test.YtafighjlciglpaaDoorWrtW
namespace Go.Proofs.YtafighjlciglpaaDoor
open Go.RowKit
set_option linter.unusedVariables false
set_option maxRecDepth 100000

theorem slice_lt {W : World} {base : Nat} {a : Addr} {len cap : Nat} (h : Value.okWide Tryd.prog W .any base 22 (.slice (some a) len cap)) : a.block < W.heap.size := by
  simp only [Value.okWide, Tryd.underlying22, Cell.okWide, Cell.ok] at h
  obtain ⟨-, -, hh⟩ := h
  unfold World.has at hh
  obtain ⟨-, -, row, cells, hs, -⟩ := hh
  rcases Nat.lt_or_ge a.block W.heap.size with h' | h'
  · exact h'
  · unfold World.shape? at hs
    rw [Array.getElem?_eq_none h'] at hs
    cases hs

theorem bytes_lat {w : World} {a : Option Addr} {len : Nat} {f : Nat → UInt8} (h : Bytes w a len f) : Bytes w a (blist f len).length (lat (blist f len)) := fun i hi => by
  rw [blist_len] at hi
  obtain ⟨b, off, e, hc⟩ := h i hi
  refine ⟨b, off, e, ?_⟩
  rw [show lat (blist f len) i = f i by simp [lat, blist, hi]]
  exact hc

set_option maxHeartbeats 4000000 in
theorem reads_walk (a : Option Addr) (len cap : Nat) (f : Nat → UInt8) (w : World) (hl : Bytes w a len f) (hap : ∀ x, a = some x → x.block < w.heap.size) (hlc : len ≤ cap) (hm : cap ≤ 549755813888) (he : Ety w) :
    Calls Tryd.prog 3 #[.slice a len cap] w fun e w' => e = .returned (.bool true) ∧ Below w.heap.size w w' := by
  have HL : Hid (Bytes w a len f) := hl
  have HE : Hid (Ety w) := he
  have HAP : Hid (∀ x, a = some x → x.block < w.heap.size) := hap
  have hbl := blist_len f len
  clear hl he hap
  go_enter Tryd.func3, Tryd.ntmps3
  go_wp2_with fail
  refine (copied_ol a len cap f w HL.out (by omega)).mono ?_
  rintro e w1 ⟨rfl, ho1, hb1, hlt1⟩
  have HB1 : Hid (Below w.heap.size w w1) := hb1
  have hS1 : Shows w1 (some ⟨w.heap.size, 0, none⟩) len (blist f len) w1.heap.size := ⟨ho1.bytes.2, by rw [hbl]; exact Nat.le_refl _, by omega, (fun x hx => by cases hx; exact hlt1), ⟨_, _, rfl⟩, by rw [hbl]; omega⟩
  have hC1 := wireRows_any (some ⟨w.heap.size, 0, none⟩) len (blist f len) w1 hS1 (by omega)
  rw [hbl] at hC1
  have HC1 : Hid (Calls Tryd.prog 5 #[.slice (some ⟨w.heap.size, 0, none⟩) len len] w1 (TopPost w1 (blist f len))) := hC1
  clear ho1 hb1 hS1 hC1
  go_wp2_with fail
  refine HC1.out.mono ?_
  rintro e w2 ⟨a1, n1, c1, E, rfl, hB2, hcase⟩
  have HB2 : Hid (Below w.heap.size w w2) := HB1.out.trans (hB2.mono (Nat.le_of_lt hlt1))
  have hs2 := HB2.out.size
  have hC2 := readRows_any a cap (blist f len) w2 (bytes_lat (HL.out.later HB2.out)) (fun x hx => by have := HAP.out x hx; omega) (by omega) (by omega) (by omega)
  rw [hbl] at hC2
  have HC2 : Hid (Calls Tryd.prog 7 #[.slice a len cap] w2 (ReadPost w2 (blist f len))) := hC2
  have HCA : Hid ((E = 0 ∧ ∃ rs : List Rw, rs.length = n1 ∧ (∀ r ∈ rs, Fine r) ∧ blist f len = encRows rs ∧ RLies w2 a1 rs) ∨
       (E = 7 ∧ a1 = none ∧ n1 = 0 ∧ c1 = 0 ∧ ∀ rs : List Rw, (∀ r ∈ rs, Fine r) → InI (rs.length : Int) → blist f len ≠ encRows rs)) := hcase
  clear hB2 hcase hC2 HC1 HB1
  go_wp2_with fail
  refine HC2.out.mono ?_
  rintro e w3 ⟨a2, n2, c2, ok, rfl, hB3, hy, hn⟩
  have HB3 : Hid (Below w.heap.size w w3) := HB2.out.trans (hB3.mono hs2)
  have hty : Ety w3 := HE.out.later HB3.out
  have HTY : Hid (Ety w3) := hty
  have HY : Hid (ok = true → ∃ rs : List Rw, rs.length = n2 ∧ (∀ r ∈ rs, Fine r) ∧ blist f len = encRows rs ∧ RLies w3 a2 rs) := hy
  have HN : Hid (ok = false → NoRows (blist f len)) := hn
  have HB23 : Hid (Below w2.heap.size w2 w3) := hB3
  clear hB3 hy hn hty HC2
  go_wp2_with fail
  refine (told_any E w3 HTY.out).mono ?_
  rintro e w4 ⟨rfl, hB4⟩
  have HB4 : Hid (Below w.heap.size w w4) := HB3.out.trans (hB4.mono HB3.out.size)
  have HB34 : Hid (Below w3.heap.size w3 w4) := hB4
  clear hB4
  have lenI : ∀ rs : List Rw, blist f len = encRows rs → rs.length ≤ len := fun rs h => by
    have h1 := congrArg List.length h
    rw [hbl] at h1
    unfold encRows at h1
    rw [List.length_append] at h1
    have h6 : ∀ l : List Rw, l.length ≤ (l.flatMap encRow).length := fun l => by
      induction l with
      | nil => simp
      | cons r l ih => rw [List.flatMap_cons, List.length_append, List.length_cons]; have := encRow_pos r; omega
    have := h6 rs
    omega
  rcases HCA.out with ⟨rfl, rs, hrn, hfine, hrE, hRL⟩ | ⟨rfl, rfl, rfl, rfl, hno⟩
  · cases ok with
    | false => exact absurd hrE (HN.out rfl rs hfine ⟨by omega, by have := lenI rs hrE; omega⟩)
    | true =>
      obtain ⟨rs2, hrn2, hfine2, hrE2, hRL2⟩ := HY.out rfl
      obtain ⟨rfl, -⟩ := encRows_pf (xs := rs) (ys := rs2) (r := []) (s := []) (fun r hr => formR_of_valid (hfine r hr).1) (fun r hr => formR_of_valid (hfine2 r hr).1) (by rw [List.append_nil, List.append_nil, ← hrE, ← hrE2])
      have hll := lenI rs hrE
      subst hrn
      subst hrn2
      have HRA : Hid (RLies w4 a1 rs) := (hRL.later HB23.out).later HB34.out
      have HRB : Hid (RLies w4 a2 rs) := hRL2.later HB34.out
      have HFV : Hid (∀ r ∈ rs, r.vs.length ≤ 549755813888) := fun r hr => by have := fine_len (hfine r hr); omega
      clear hfine hfine2 hrE hrE2 hRL hRL2 lenI HCA HN HY
      go_wp2_with fail
      refine (sameRows_any rs a1 c1 a2 c2 w4 HRA.out HRB.out (by omega) HFV.out).mono ?_
      rintro e w5 ⟨rfl, hB5⟩
      have HB5 : Hid (Below w.heap.size w w5) := HB4.out.trans (hB5.mono HB4.out.size)
      clear hB5
      go_wp2
      go_ret
      exact ⟨rfl, HB5.out⟩
  · cases ok with
    | true =>
      obtain ⟨rs2, hrn2, hfine2, hrE2, hRL2⟩ := HY.out rfl
      exact absurd hrE2 (hno rs2 hfine2 ⟨by omega, by have := lenI rs2 hrE2; omega⟩)
    | false =>
      clear hno lenI HCA HN HY
      go_wp2
      go_ret
      exact ⟨rfl, HB4.out⟩
end Go.Proofs.YtafighjlciglpaaDoor
