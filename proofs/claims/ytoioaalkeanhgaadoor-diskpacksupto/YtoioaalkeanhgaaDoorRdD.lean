import Derived.Test.YtoioaalkeanhgaaDoorRdC
import Derived.Test.YtoioaalkeanhgaaDoorRdV
namespace Go.Proofs.YtoioaalkeanhgaaDoor
open Go.RowKit
set_option linter.unusedVariables false
set_option maxRecDepth 100000

theorem hidMk {p : Prop} (h : p) : Hid p := h
theorem slice_to (b o len cap m : Nat) (hm : m ≤ cap) (W : World) :
    (Instr.slice 26 (.slice (some ⟨b, o, none⟩) len cap) none (some (.int .i64 (m : Int))) none).run Tryd.prog W = .ok (.slice (some ⟨b, o, none⟩) m cap) W := by
  rw [run_slice_h (P := Tryd.prog) W 26 (some ⟨b, o, none⟩) len cap (Tryd.underlying26.trans (by kernel_rfl)) .i64 _ (by omega) (by omega)]
  rw [Int.toNat_natCast]
  have hs : (sizeOf (Tryd.prog.elem 26)).run Tryd.prog W = .ok 1 W := by
    rw [show Tryd.prog.elem 26 = 5 by kernel_rfl]; exact Tryd.sizeOf5 W
  rw [hs]
  simp only [Result.andThen, sliced, Nat.mul_one, Option.map]
  rw [show ∀ j, (Addr.mk b o none).add j = Addr.mk b (o + j) none from fun j => WideShapes.add_plain ..]
  simp
theorem sliceAt_to (b o len cap m : Nat) (hm : m ≤ cap) (W : World) :
    (Instr.sliceAt 26 (.slice (some ⟨b, o, none⟩) len cap) none (some (.int .i64 (m : Int))) none).run Tryd.prog W = .ok (.slice (some ⟨b, o, none⟩) m cap) W := by
  rw [run_sliceAt_slice W 26 _ _ _ _ (Tryd.underlying26.trans (by kernel_rfl))]
  exact slice_to b o len cap m hm W

theorem slice_to3 (b o len cap m : Nat) (hm : m ≤ cap) (W : World) :
    (Instr.slice 26 (.slice (some ⟨b, o, none⟩) len cap) none (some (.int .i64 (m : Int))) (some (.int .i64 (m : Int)))).run Tryd.prog W = .ok (.slice (some ⟨b, o, none⟩) m m) W := by
  rw [run_slice_hm (P := Tryd.prog) W 26 (some ⟨b, o, none⟩) len cap (Tryd.underlying26.trans (by kernel_rfl)) .i64 .i64 _ _ (by omega) (by omega) (by omega)]
  rw [Int.toNat_natCast]
  have hs : (sizeOf (Tryd.prog.elem 26)).run Tryd.prog W = .ok 1 W := by
    rw [show Tryd.prog.elem 26 = 5 by kernel_rfl]; exact Tryd.sizeOf5 W
  rw [hs]
  simp only [Result.andThen, sliced, Nat.mul_one, Option.map]
  rw [show ∀ j, (Addr.mk b o none).add j = Addr.mk b (o + j) none from fun j => WideShapes.add_plain ..]
  simp
theorem sliceAt_to3 (b o len cap m : Nat) (hm : m ≤ cap) (W : World) :
    (Instr.sliceAt 26 (.slice (some ⟨b, o, none⟩) len cap) none (some (.int .i64 (m : Int))) (some (.int .i64 (m : Int)))).run Tryd.prog W = .ok (.slice (some ⟨b, o, none⟩) m m) W := by
  rw [run_sliceAt_slice W 26 _ _ _ _ (Tryd.underlying26.trans (by kernel_rfl))]
  exact slice_to3 b o len cap m hm W

/-- What reading a text gives. -/
def TextPost (w : World) (g : Nat) (L : List UInt8) (e : Ending) (w' : World) : Prop := ∃ (s : ByteArray) (ok : Bool) (L' : List UInt8), e = .returned (.tuple #[.string s, .bool ok]) ∧ w.grownBy w' (some g) ∧ Rd w' g L' ∧ L'.length ≤ L.length ∧ s.size ≤ L.length ∧
      (ok = true → L = (encInt (s.size : Int) ++ s.data.toList) ++ L') ∧ (ok = false → ∀ (t : ByteArray) r, InI (t.size : Int) → L ≠ (encInt (t.size : Int) ++ t.data.toList) ++ r)

theorem bstr_size (f : Nat → UInt8) (n : Nat) : (bstr f n).size = n := by rw [bstr_blist, lstr_size, blist_len]
theorem bstr_take (L : List UInt8) (n : Nat) (h : n ≤ L.length) : (bstr (lat L) n).data.toList = L.take n := by
  apply List.ext_getElem?
  intro i
  by_cases hi : i < n
  · simp [bstr, lat, hi, show i < L.length by omega]
  · simp [bstr, hi]; omega

/-- What reading a count gives. -/
def CntPost (w : World) (g : Nat) (L : List UInt8) (e : Ending) (w' : World) : Prop := ∃ (m : Nat) (ok : Bool) (L' : List UInt8), e = .returned (.tuple #[.int .i64 m, .bool ok]) ∧ w.grownBy w' (some g) ∧ Rd w' g L' ∧ L'.length ≤ L.length ∧
      (ok = true → L = encInt m ++ L' ∧ m ≤ L'.length) ∧ (ok = false → m = 0 ∧ ∀ (k : Nat) s, InI (k : Int) → k ≤ s.length → L ≠ encInt k ++ s)
set_option maxHeartbeats 4000000 in
theorem count_any (g : Nat) (L : List UInt8) (w : World) (hR : Rd w g L) :
    Calls Tryd.prog 31 #[.pointer (some ⟨g, 0, none⟩)] w (CntPost w g L) := by
  have HR : Hid (Rd w g L) := hR
  clear hR
  go_enter Tryd.func31, Tryd.ntmps31
  go_wp2_with fail
  refine (num_any g L w HR.out).mono ?_
  rintro e w1 ⟨n, ok, L1, rfl, hin, hg1, hR1, hl1, hy, hn⟩
  have HG1 : Hid (w.grownBy w1 (some g)) := hg1
  have HR1 : Hid (Rd w1 g L1) := hR1
  have HY : Hid (ok = true → L = encInt n ++ L1) := hy
  have HN : Hid (ok = false → ∀ m s, InI m → L ≠ encInt m ++ s) := hn
  clear hg1 hR1 hy hn HR
  cases ok with
  | false =>
    have HC : Hid (∀ (k : Nat) s, InI (k : Int) → k ≤ s.length → L ≠ encInt k ++ s) := fun k s hk _ => HN.out rfl _ _ hk
    go_wp2
    go_ret2
    exact ⟨0, false, L1, rfl, HG1.out, HR1.out, hl1, (fun h => by cases h), fun _ => ⟨rfl, HC.out⟩⟩
  | true =>
    have HE : Hid (L = encInt n ++ L1) := HY.out rfl
    clear HY HN
    have hsm := HR1.out.small
    obtain ⟨a, c, hO, hS⟩ := HR1.out
    have c0 : w1.cell? ⟨g, 0, none⟩ = some (.slice a L1.length c) := by rw [hO.cell 0 (by decide)]; rfl
    clear hO hS
    by_cases hbad : n < 0 ∨ (¬ n < 0 ∧ (L1.length : Int) < n)
    · have HC : Hid (∀ (k : Nat) s, InI (k : Int) → k ≤ s.length → L ≠ encInt k ++ s) := fun k s hk hks h => by
        rw [HE.out] at h
        obtain ⟨e1, e2⟩ := encInt_pf h
        rw [e2] at hbad
        omega
      rcases hbad with hb1 | ⟨hb1, hb2⟩
      · go_wp2
        go_ret2
        exact ⟨0, false, L1, rfl, HG1.out, HR1.out, hl1, (fun h => by cases h), fun _ => ⟨rfl, HC.out⟩⟩
      · go_wp2
        go_ret2
        exact ⟨0, false, L1, rfl, HG1.out, HR1.out, hl1, (fun h => by cases h), fun _ => ⟨rfl, HC.out⟩⟩
    · obtain ⟨m, rfl⟩ : ∃ m : Nat, n = (m : Int) := ⟨n.toNat, by omega⟩
      have hm : m ≤ L1.length := by omega
      have hmi : ¬ (L1.length : Int) < (m : Int) := by omega
      have hm0 : ¬ (m : Int) < 0 := by omega
      have hmw : IntKind.i64.wrap (m : Int) = (m : Int) := by simp [IntKind.wrap, IntKind.bits, IntKind.signed]; omega
      clear hbad
      go_wp2
      go_ret2
      exact ⟨m, true, L1, rfl, HG1.out, HR1.out, hl1, fun _ => ⟨HE.out, hm⟩, fun h => by cases h⟩

/-- What reading counted bytes gives. -/
def CtdPost (w : World) (g : Nat) (L : List UInt8) (e : Ending) (w' : World) : Prop := ∃ (a : Option Addr) (m c : Nat) (ok : Bool) (L' P : List UInt8), e = .returned (.tuple #[.slice a m c, .bool ok]) ∧ w.grownBy w' (some g) ∧ Rd w' g L' ∧ L'.length ≤ L.length ∧ P.length = m ∧ m ≤ L.length ∧ m ≤ c ∧ Bytes w' a m (lat P) ∧ (∀ x, a = some x → x.block < g) ∧
      (ok = true → L = (encInt (m : Int) ++ P) ++ L') ∧ (ok = false → a = none ∧ m = 0 ∧ c = 0 ∧ ∀ (t : List UInt8) r, InI (t.length : Int) → L ≠ (encInt (t.length : Int) ++ t) ++ r)
set_option maxHeartbeats 4000000 in
theorem counted_any (g : Nat) (L : List UInt8) (w : World) (hR : Rd w g L) :
    Calls Tryd.prog 32 #[.pointer (some ⟨g, 0, none⟩)] w (CtdPost w g L) := by
  have HR : Hid (Rd w g L) := hR
  clear hR
  go_enter Tryd.func32, Tryd.ntmps32
  go_wp2_with fail
  refine (count_any g L w HR.out).mono ?_
  rintro e w1 ⟨m, ok, L1, rfl, hg1, hR1, hl1, hy, hn⟩
  have HG1 : Hid (w.grownBy w1 (some g)) := hg1
  have HR1 : Hid (Rd w1 g L1) := hR1
  clear hg1 hR1 HR
  cases ok with
  | false =>
    have HC : Hid (∀ (t : List UInt8) r, InI (t.length : Int) → L ≠ (encInt (t.length : Int) ++ t) ++ r) := fun t r ht => by
      rw [List.append_assoc]; exact (hn rfl).2 _ _ ht (by rw [List.length_append]; omega)
    clear hy hn
    go_wp2
    go_ret2
    exact ⟨none, 0, 0, false, L1, [], rfl, HG1.out, HR1.out, hl1, rfl, Nat.zero_le _, Nat.le_refl _, (fun i hi => absurd hi (by omega)), (fun x hx => by cases hx), (fun h => by cases h), fun _ => ⟨rfl, rfl, rfl, HC.out⟩⟩
  | true =>
    obtain ⟨he, hm⟩ := hy rfl
    have HE := hidMk he
    clear he hy hn
    have hsm := HR1.out.small
    obtain ⟨a, c, hO, hS⟩ := HR1.out
    obtain ⟨b, off, rfl⟩ := hS.place
    have c0 : w1.cell? ⟨g, 0, none⟩ = some (.slice (some ⟨b, off, none⟩) L1.length c) := by rw [hO.cell 0 (by decide)]; rfl
    have fr : w1.frozen? ⟨g, 0, none⟩ = false := hO.soft 0
    have hlc := hS.le
    have hcm := hS.room
    have hsh := hS.short
    obtain ⟨o', eA, ho⟩ : ∃ o', (if c = m then some (Addr.mk b off none) else some (Addr.mk b (off + m) none)) = some (Addr.mk b o' none) ∧ (o' = off + m ∨ c = m) := by
      by_cases hck : c = m
      · exact ⟨off, by rw [if_pos hck], .inr hck⟩
      · exact ⟨off + m, by rw [if_neg hck], .inl rfl⟩
    have hS1 := slice_from b off L1.length c m (m : Int) rfl hm o' eA
    have hS2 := sliceAt_from b off L1.length c m (m : Int) rfl hm o' eA
    have hS3 := slice_to3 b off L1.length c m (by omega)
    have hS4 := sliceAt_to3 b off L1.length c m (by omega)
    have HO' : Hid _ := Rd.on hO hS hm ho
    have HBy : Hid (Bytes w1 (some ⟨b, off, none⟩) m (lat (L1.take m))) := fun i hi => by
      obtain ⟨b', o2, e1, e2⟩ := hS.bytes i (by omega)
      refine ⟨b', o2, e1, ?_⟩
      rw [e2, show lat (L1.take m) i = lat L1 i by simp [lat, hi]]
    have HA : Hid (b < g) := hS.apart ⟨b, off, none⟩ rfl
    have hml : m ≤ L.length := by omega
    clear eA ho hO hS
    go_wp2
    go_ret2
    refine ⟨some ⟨b, off, none⟩, m, m, true, L1.drop m, L1.take m, rfl, grown_trans HG1.out HO'.out.2, HO'.out.1, by rw [List.length_drop]; omega, by rw [List.length_take]; omega, hml, by omega, HBy.out.grown HO'.out.2 (fun x hx e => by cases hx; have := HA.out; have e' := Option.some.inj e; simp at e'; omega), (fun x hx => by cases hx; exact HA.out), fun _ => ?_, fun h => by cases h⟩
    rw [HE.out, List.append_assoc, List.take_append_drop]

theorem ended_any (g : Nat) (L : List UInt8) (w : World) (hR : Rd w g L) :
    Calls Tryd.prog 25 #[.pointer (some ⟨g, 0, none⟩)] w fun e w' => e = .returned (.bool ((L.length : Int) == 0)) ∧ w' = w := by
  obtain ⟨a, c, hO, hS⟩ := hR
  have c0 : w.cell? ⟨g, 0, none⟩ = some (.slice a L.length c) := by rw [hO.cell 0 (by decide)]; rfl
  clear hO hS
  go_enter Tryd.func25, Tryd.ntmps25
  go_wp2
  go_ret
  exact ⟨rfl, rfl⟩

/-- What reading a value gives. -/
def ValPost (w : World) (g : Nat) (L : List UInt8) (e : Ending) (w' : World) : Prop := ∃ (v : V) (ok : Bool) (L' : List UInt8), e = .returned (.tuple #[.agg #[.int .i64 v.k, .int .i64 v.n, .string v.s], .bool ok]) ∧ w.grownBy w' (some g) ∧ Rd w' g L' ∧ L'.length ≤ L.length ∧ InI v.n ∧ v.s.size ≤ L.length ∧
      (ok = true → FormV v ∧ L = encVal v ++ L') ∧ (ok = false → ∀ u r, FormV u → InI u.n → InI (u.s.size : Int) → L ≠ encVal u ++ r)

theorem grown_set (w : World) (a : Addr) (u : Value) : w.grownBy (w.setCell a u) (some a.block) :=
  ⟨rfl, rfl, rfl, by simp, fun k _ hk => heap_setCell_other w a k u (fun e => hk (by simp [e]))⟩
theorem grown_new {a b c : World} {r r' : Option Nat} (h : a.grownBy b r) (k : b.grownBy c r') (hr : ∀ n, r' = some n → a.heap.size ≤ n) : a.grownBy c r :=
  ⟨k.os.trans h.os, k.tape.trans h.tape, k.output.trans h.output, Nat.le_trans h.size k.size, fun i hi hne => (k.block i (Nat.lt_of_lt_of_le hi h.size) (fun e => by have := hr i e.symm; omega)).trans (h.block i hi hne)⟩
theorem size_set (w : World) (a : Addr) (u : Value) : (w.setCell a u).heap.size = w.heap.size := by simp
theorem val_head {X : Nat} (hX : X < 256) {D : List UInt8} {u : V} {r : List UInt8} (hu : FormV u) (h : kb (X : Int) :: D = encVal u ++ r) : u.k = (X : Int) ∧ D = encTail u ++ r := by
  unfold encVal at h
  rw [List.cons_append] at h
  injection h with h1 h2
  exact ⟨(kb_inj ⟨by omega, by omega⟩ ⟨hu.1, hu.2.1⟩ h1).symm, h2⟩
theorem val_no_num {X : Nat} (hX : X < 256) (h12 : (X : Int) = 1 ∨ (X : Int) = 2) {L D : List UInt8} (hL : L = kb (X : Int) :: D) (hn : ∀ m s, InI m → D ≠ encInt m ++ s) : ∀ u r, FormV u → InI u.n → InI (u.s.size : Int) → L ≠ encVal u ++ r := by
  intro u r hu hi _ h
  rw [hL] at h
  obtain ⟨h1, h2⟩ := val_head hX hu h
  unfold encTail at h2
  rw [h1, if_pos h12] at h2
  exact hn _ _ hi h2
theorem val_no_text {X : Nat} (h3 : (X : Int) = 3) {L D : List UInt8} (hL : L = kb (X : Int) :: D) (hn : ∀ (t : ByteArray) r, InI (t.size : Int) → D ≠ (encInt (t.size : Int) ++ t.data.toList) ++ r) : ∀ u r, FormV u → InI u.n → InI (u.s.size : Int) → L ≠ encVal u ++ r := by
  intro u r hu _ hi h
  rw [hL] at h
  obtain ⟨h1, h2⟩ := val_head (by omega) hu h
  unfold encTail at h2
  rw [h1, if_neg (by omega), if_pos h3] at h2
  exact hn _ _ hi h2

end Go.Proofs.YtoioaalkeanhgaaDoor
