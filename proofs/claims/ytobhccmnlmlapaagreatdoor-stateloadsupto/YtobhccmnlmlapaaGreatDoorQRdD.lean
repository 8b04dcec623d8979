import Derived.Test.YtobhccmnlmlapaaGreatDoorGm
import Derived.Test.YtobhccmnlmlapaaGreatDoorQRdV
namespace Go.Proofs.YtobhccmnlmlapaaGreatDoor.Wr
open Go.RowKit
set_option linter.unusedVariables false
set_option maxRecDepth 100000

theorem hidMk {p : Prop} (h : p) : Hid p := h
theorem slice_to (b o len cap m : Nat) (hm : m ≤ cap) (W : World) :
    (Instr.slice 39 (.slice (some ⟨b, o, none⟩) len cap) none (some (.int .i64 (m : Int))) none).run Tryz.prog W = .ok (.slice (some ⟨b, o, none⟩) m cap) W := by
  rw [run_slice_h (P := Tryz.prog) W 39 (some ⟨b, o, none⟩) len cap (Tryz.underlying39.trans (by kernel_rfl)) .i64 _ (by omega) (by omega)]
  rw [Int.toNat_natCast]
  have hs : (sizeOf (Tryz.prog.elem 39)).run Tryz.prog W = .ok 1 W := by
    rw [show Tryz.prog.elem 39 = 5 by kernel_rfl]; exact Tryz.sizeOf5 W
  rw [hs]
  simp only [Result.andThen, sliced, Nat.mul_one, Option.map]
  rw [show ∀ j, (Addr.mk b o none).add j = Addr.mk b (o + j) none from fun j => WideShapes.add_plain ..]
  simp
theorem sliceAt_to (b o len cap m : Nat) (hm : m ≤ cap) (W : World) :
    (Instr.sliceAt 39 (.slice (some ⟨b, o, none⟩) len cap) none (some (.int .i64 (m : Int))) none).run Tryz.prog W = .ok (.slice (some ⟨b, o, none⟩) m cap) W := by
  rw [run_sliceAt_slice W 39 _ _ _ _ (Tryz.underlying39.trans (by kernel_rfl))]
  exact slice_to b o len cap m hm W

theorem slice_to3 (b o len cap m : Nat) (hm : m ≤ cap) (W : World) :
    (Instr.slice 39 (.slice (some ⟨b, o, none⟩) len cap) none (some (.int .i64 (m : Int))) (some (.int .i64 (m : Int)))).run Tryz.prog W = .ok (.slice (some ⟨b, o, none⟩) m m) W := by
  rw [run_slice_hm (P := Tryz.prog) W 39 (some ⟨b, o, none⟩) len cap (Tryz.underlying39.trans (by kernel_rfl)) .i64 .i64 _ _ (by omega) (by omega) (by omega)]
  rw [Int.toNat_natCast]
  have hs : (sizeOf (Tryz.prog.elem 39)).run Tryz.prog W = .ok 1 W := by
    rw [show Tryz.prog.elem 39 = 5 by kernel_rfl]; exact Tryz.sizeOf5 W
  rw [hs]
  simp only [Result.andThen, sliced, Nat.mul_one, Option.map]
  rw [show ∀ j, (Addr.mk b o none).add j = Addr.mk b (o + j) none from fun j => WideShapes.add_plain ..]
  simp
theorem sliceAt_to3 (b o len cap m : Nat) (hm : m ≤ cap) (W : World) :
    (Instr.sliceAt 39 (.slice (some ⟨b, o, none⟩) len cap) none (some (.int .i64 (m : Int))) (some (.int .i64 (m : Int)))).run Tryz.prog W = .ok (.slice (some ⟨b, o, none⟩) m m) W := by
  rw [run_sliceAt_slice W 39 _ _ _ _ (Tryz.underlying39.trans (by kernel_rfl))]
  exact slice_to3 b o len cap m hm W

/-- What reading a text gives. -/
def TextPost (w : World) (g : Nat) (L : List UInt8) (e : Ending) (w' : World) : Prop := ∃ (s : ByteArray) (ok : Bool) (L' : List UInt8), e = .returned (.tuple #[.string s, .bool ok]) ∧ w.grownBy w' (some g) ∧ Rd w' g L' ∧ L'.length ≤ L.length ∧ s.size ≤ L.length ∧
      (ok = true → L = (encInt (s.size : Int) ++ s.data.toList) ++ L') ∧ (ok = false → ∀ (t : ByteArray) r, InI (t.size : Int) → L ≠ (encInt (t.size : Int) ++ t.data.toList) ++ r)

theorem bstr_size (f : Nat → UInt8) (n : Nat) : (bstr f n).size = n := by rw [bstr_blist, lstr_size, blist_len]
theorem bstr_take (L : List UInt8) (n : Nat) (h : n ≤ L.length) : (bstr (lat L) n).data.toList = L.take n := by
  apply List.ext_getElem?
  intro i
  by_cases hi : i < n
  · simp [bstr, lat, hi, show i < L.length by omega]
  · simp [bstr, hi]; omega

/-- What reading a count gives. -/
def CntPost (w : World) (g : Nat) (L : List UInt8) (e : Ending) (w' : World) : Prop := ∃ (m : Nat) (ok : Bool) (L' : List UInt8), e = .returned (.tuple #[.int .i64 m, .bool ok]) ∧ w.grownBy w' (some g) ∧ Rd w' g L' ∧ L'.length ≤ L.length ∧
      (ok = true → L = encInt m ++ L' ∧ m ≤ L'.length) ∧ (ok = false → m = 0 ∧ ∀ (k : Nat) s, InI (k : Int) → k ≤ s.length → L ≠ encInt k ++ s)
set_option maxHeartbeats 4000000 in
theorem count_any (g : Nat) (L : List UInt8) (w : World) (hR : Rd w g L) :
    Calls Tryz.prog 69 #[.pointer (some ⟨g, 0, none⟩)] w (CntPost w g L) := by
  have HR : Hid (Rd w g L) := hR
  clear hR
  go_enter Tryz.func69, Tryz.ntmps69
  go_wp2_with fail
  refine (num_any g L w HR.out).mono ?_
  rintro e w1 ⟨n, ok, L1, rfl, hin, hg1, hR1, hl1, hy, hn⟩
  have HG1 : Hid (w.grownBy w1 (some g)) := hg1
  have HR1 : Hid (Rd w1 g L1) := hR1
  have HY : Hid (ok = true → L = encInt n ++ L1) := hy
  have HN : Hid (ok = false → ∀ m s, InI m → L ≠ encInt m ++ s) := hn
  clear hg1 hR1 hy hn HR
  cases ok with
  | false =>
    have HC : Hid (∀ (k : Nat) s, InI (k : Int) → k ≤ s.length → L ≠ encInt k ++ s) := fun k s hk _ => HN.out rfl _ _ hk
    go_wp2
    go_ret2
    exact ⟨0, false, L1, rfl, HG1.out, HR1.out, hl1, (fun h => by cases h), fun _ => ⟨rfl, HC.out⟩⟩
  | true =>
    have HE : Hid (L = encInt n ++ L1) := HY.out rfl
    clear HY HN
    have hsm := HR1.out.small
    obtain ⟨a, c, hO, hS⟩ := HR1.out
    have c0 : w1.cell? ⟨g, 0, none⟩ = some (.slice a L1.length c) := by rw [hO.cell 0 (by decide)]; rfl
    clear hO hS
    by_cases hbad : n < 0 ∨ (¬ n < 0 ∧ (L1.length : Int) < n)
    · have HC : Hid (∀ (k : Nat) s, InI (k : Int) → k ≤ s.length → L ≠ encInt k ++ s) := fun k s hk hks h => by
        rw [HE.out] at h
        obtain ⟨e1, e2⟩ := encInt_pf h
        rw [e2] at hbad
        omega
      rcases hbad with hb1 | ⟨hb1, hb2⟩
      · go_wp2
        go_ret2
        exact ⟨0, false, L1, rfl, HG1.out, HR1.out, hl1, (fun h => by cases h), fun _ => ⟨rfl, HC.out⟩⟩
      · go_wp2
        go_ret2
        exact ⟨0, false, L1, rfl, HG1.out, HR1.out, hl1, (fun h => by cases h), fun _ => ⟨rfl, HC.out⟩⟩
    · obtain ⟨m, rfl⟩ : ∃ m : Nat, n = (m : Int) := ⟨n.toNat, by omega⟩
      have hm : m ≤ L1.length := by omega
      have hmi : ¬ (L1.length : Int) < (m : Int) := by omega
      have hm0 : ¬ (m : Int) < 0 := by omega
      have hmw : IntKind.i64.wrap (m : Int) = (m : Int) := by simp [IntKind.wrap, IntKind.bits, IntKind.signed]; omega
      clear hbad
      go_wp2
      go_ret2
      exact ⟨m, true, L1, rfl, HG1.out, HR1.out, hl1, fun _ => ⟨HE.out, hm⟩, fun h => by cases h⟩

/-- What reading counted bytes gives. -/
def CtdPost (w : World) (g : Nat) (L : List UInt8) (e : Ending) (w' : World) : Prop := ∃ (a : Option Addr) (m c : Nat) (ok : Bool) (L' P : List UInt8), e = .returned (.tuple #[.slice a m c, .bool ok]) ∧ w.grownBy w' (some g) ∧ Rd w' g L' ∧ L'.length ≤ L.length ∧ P.length = m ∧ m ≤ L.length ∧ m ≤ c ∧ Bytes w' a m (lat P) ∧ (∀ x, a = some x → x.block < g) ∧
      (ok = true → L = (encInt (m : Int) ++ P) ++ L') ∧ (ok = false → a = none ∧ m = 0 ∧ c = 0 ∧ ∀ (t : List UInt8) r, InI (t.length : Int) → L ≠ (encInt (t.length : Int) ++ t) ++ r)
set_option maxHeartbeats 4000000 in
theorem counted_any (g : Nat) (L : List UInt8) (w : World) (hR : Rd w g L) :
    Calls Tryz.prog 123 #[.pointer (some ⟨g, 0, none⟩)] w (CtdPost w g L) := by
  have HR : Hid (Rd w g L) := hR
  clear hR
  go_enter Tryz.func123, Tryz.ntmps123
  go_wp2_with fail
  refine (count_any g L w HR.out).mono ?_
  rintro e w1 ⟨m, ok, L1, rfl, hg1, hR1, hl1, hy, hn⟩
  have HG1 : Hid (w.grownBy w1 (some g)) := hg1
  have HR1 : Hid (Rd w1 g L1) := hR1
  clear hg1 hR1 HR
  cases ok with
  | false =>
    have HC : Hid (∀ (t : List UInt8) r, InI (t.length : Int) → L ≠ (encInt (t.length : Int) ++ t) ++ r) := fun t r ht => by
      rw [List.append_assoc]; exact (hn rfl).2 _ _ ht (by rw [List.length_append]; omega)
    clear hy hn
    go_wp2
    go_ret2
    exact ⟨none, 0, 0, false, L1, [], rfl, HG1.out, HR1.out, hl1, rfl, Nat.zero_le _, Nat.le_refl _, (fun i hi => absurd hi (by omega)), (fun x hx => by cases hx), (fun h => by cases h), fun _ => ⟨rfl, rfl, rfl, HC.out⟩⟩
  | true =>
    obtain ⟨he, hm⟩ := hy rfl
    have HE := hidMk he
    clear he hy hn
    have hsm := HR1.out.small
    obtain ⟨a, c, hO, hS⟩ := HR1.out
    obtain ⟨b, off, rfl⟩ := hS.place
    have c0 : w1.cell? ⟨g, 0, none⟩ = some (.slice (some ⟨b, off, none⟩) L1.length c) := by rw [hO.cell 0 (by decide)]; rfl
    have fr : w1.frozen? ⟨g, 0, none⟩ = false := hO.soft 0
    have hlc := hS.le
    have hcm := hS.room
    have hsh := hS.short
    obtain ⟨o', eA, ho⟩ : ∃ o', (if c = m then some (Addr.mk b off none) else some (Addr.mk b (off + m) none)) = some (Addr.mk b o' none) ∧ (o' = off + m ∨ c = m) := by
      by_cases hck : c = m
      · exact ⟨off, by rw [if_pos hck], .inr hck⟩
      · exact ⟨off + m, by rw [if_neg hck], .inl rfl⟩
    have hS1 := slice_from b off L1.length c m (m : Int) rfl hm o' eA
    have hS2 := sliceAt_from b off L1.length c m (m : Int) rfl hm o' eA
    have hS3 := slice_to3 b off L1.length c m (by omega)
    have hS4 := sliceAt_to3 b off L1.length c m (by omega)
    have HO' : Hid _ := Rd.on hO hS hm ho
    have HBy : Hid (Bytes w1 (some ⟨b, off, none⟩) m (lat (L1.take m))) := fun i hi => by
      obtain ⟨b', o2, e1, e2⟩ := hS.bytes i (by omega)
      refine ⟨b', o2, e1, ?_⟩
      rw [e2, show lat (L1.take m) i = lat L1 i by simp [lat, hi]]
    have HA : Hid (b < g) := hS.apart ⟨b, off, none⟩ rfl
    have hml : m ≤ L.length := by omega
    clear eA ho hO hS
    go_wp2
    go_ret2
    refine ⟨some ⟨b, off, none⟩, m, m, true, L1.drop m, L1.take m, rfl, grown_trans HG1.out HO'.out.2, HO'.out.1, by rw [List.length_drop]; omega, by rw [List.length_take]; omega, hml, by omega, HBy.out.grown HO'.out.2 (fun x hx e => by cases hx; have := HA.out; have e' := Option.some.inj e; simp at e'; omega), (fun x hx => by cases hx; exact HA.out), fun _ => ?_, fun h => by cases h⟩
    rw [HE.out, List.append_assoc, List.take_append_drop]

set_option maxHeartbeats 4000000 in
theorem text_any (g : Nat) (L : List UInt8) (w : World) (hR : Rd w g L) :
    Calls Tryz.prog 146 #[.pointer (some ⟨g, 0, none⟩)] w (TextPost w g L) := by
  have HR : Hid (Rd w g L) := hR
  clear hR
  go_enter Tryz.func146, Tryz.ntmps146
  go_wp2_with fail
  refine (counted_any g L w HR.out).mono ?_
  rintro e w1 ⟨a, m, c, ok, L1, P, rfl, hg1, hR1, hl1, hP, hmL, hmc, hB, hap, hy, hn⟩
  have HG1 : Hid (w.grownBy w1 (some g)) := hg1
  have HR1 : Hid (Rd w1 g L1) := hR1
  have hsm := hR1.small
  have V1 := conv_bytes w1 a m c (lat P) hB
  have HSZ : Hid ((bstr (lat P) m).size = m) := bstr_size _ _
  have HBT : Hid ((bstr (lat P) m).data.toList = P) := by
    rw [Hid, bstr_take P m (by omega), List.take_of_length_le (by omega)]
  have HYV : Hid (ok = true → L = (encInt ((bstr (lat P) m).size : Int) ++ (bstr (lat P) m).data.toList) ++ L1) := fun h => by rw [HSZ.out, HBT.out]; exact hy h
  have HNV : Hid (ok = false → ∀ (t : ByteArray) r, InI (t.size : Int) → L ≠ (encInt (t.size : Int) ++ t.data.toList) ++ r) := fun h t r ht => by
    have := (hn h).2.2.2 t.data.toList r
    rw [show t.data.toList.length = t.size by simp] at this
    exact this ht
  clear hg1 hR1 hB hap hy hn HR
  generalize bstr (lat P) m = S at *
  go_wp2
  go_ret2
  exact ⟨S, ok, L1, rfl, HG1.out, HR1.out, hl1, by rw [HSZ.out]; exact hmL, HYV.out, HNV.out⟩
theorem ended_any (g : Nat) (L : List UInt8) (w : World) (hR : Rd w g L) :
    Calls Tryz.prog 71 #[.pointer (some ⟨g, 0, none⟩)] w fun e w' => e = .returned (.bool ((L.length : Int) == 0)) ∧ w' = w := by
  obtain ⟨a, c, hO, hS⟩ := hR
  have c0 : w.cell? ⟨g, 0, none⟩ = some (.slice a L.length c) := by rw [hO.cell 0 (by decide)]; rfl
  clear hO hS
  go_enter Tryz.func71, Tryz.ntmps71
  go_wp2
  go_ret
  exact ⟨rfl, rfl⟩

/-- What reading a value gives. -/
def ValPost (w : World) (g : Nat) (L : List UInt8) (e : Ending) (w' : World) : Prop := ∃ (v : V) (ok : Bool) (L' : List UInt8), e = .returned (.tuple #[.agg #[.int .i64 v.k, .int .i64 v.n, .string v.s], .bool ok]) ∧ w.grownBy w' (some g) ∧ Rd w' g L' ∧ L'.length ≤ L.length ∧ InI v.n ∧ v.s.size ≤ L.length ∧
      (ok = true → FormV v ∧ L = encVal v ++ L') ∧ (ok = false → ∀ u r, FormV u → InI u.n → InI (u.s.size : Int) → L ≠ encVal u ++ r)

theorem grown_set (w : World) (a : Addr) (u : Value) : w.grownBy (w.setCell a u) (some a.block) :=
  ⟨rfl, rfl, rfl, by simp, fun k _ hk => heap_setCell_other w a k u (fun e => hk (by simp [e]))⟩
theorem grown_new {a b c : World} {r r' : Option Nat} (h : a.grownBy b r) (k : b.grownBy c r') (hr : ∀ n, r' = some n → a.heap.size ≤ n) : a.grownBy c r :=
  ⟨k.os.trans h.os, k.tape.trans h.tape, k.output.trans h.output, Nat.le_trans h.size k.size, fun i hi hne => (k.block i (Nat.lt_of_lt_of_le hi h.size) (fun e => by have := hr i e.symm; omega)).trans (h.block i hi hne)⟩
theorem size_set (w : World) (a : Addr) (u : Value) : (w.setCell a u).heap.size = w.heap.size := by simp
theorem val_head {X : Nat} (hX : X < 256) {D : List UInt8} {u : V} {r : List UInt8} (hu : FormV u) (h : kb (X : Int) :: D = encVal u ++ r) : u.k = (X : Int) ∧ D = encTail u ++ r := by
  unfold encVal at h
  rw [List.cons_append] at h
  injection h with h1 h2
  exact ⟨(kb_inj ⟨by omega, by omega⟩ ⟨hu.1, hu.2.1⟩ h1).symm, h2⟩
theorem val_no_num {X : Nat} (hX : X < 256) (h12 : (X : Int) = 1 ∨ (X : Int) = 2) {L D : List UInt8} (hL : L = kb (X : Int) :: D) (hn : ∀ m s, InI m → D ≠ encInt m ++ s) : ∀ u r, FormV u → InI u.n → InI (u.s.size : Int) → L ≠ encVal u ++ r := by
  intro u r hu hi _ h
  rw [hL] at h
  obtain ⟨h1, h2⟩ := val_head hX hu h
  unfold encTail at h2
  rw [h1, if_pos h12] at h2
  exact hn _ _ hi h2
theorem val_no_text {X : Nat} (h3 : (X : Int) = 3) {L D : List UInt8} (hL : L = kb (X : Int) :: D) (hn : ∀ (t : ByteArray) r, InI (t.size : Int) → D ≠ (encInt (t.size : Int) ++ t.data.toList) ++ r) : ∀ u r, FormV u → InI u.n → InI (u.s.size : Int) → L ≠ encVal u ++ r := by
  intro u r hu _ hi h
  rw [hL] at h
  obtain ⟨h1, h2⟩ := val_head (by omega) hu h
  unfold encTail at h2
  rw [h1, if_neg (by omega), if_pos h3] at h2
  exact hn _ _ hi h2

set_option maxHeartbeats 4000000 in
theorem value_any (g : Nat) (L : List UInt8) (w : World) (hR : Rd w g L) :
    Calls Tryz.prog 122 #[.pointer (some ⟨g, 0, none⟩)] w (ValPost w g L) := by
  have HR : Hid (Rd w g L) := hR
  have hgl := hR.lt
  obtain ⟨a, c, hO, hS⟩ := hR
  obtain ⟨b, off, rfl⟩ := hS.place
  have c0 : w.cell? ⟨g, 0, none⟩ = some (.slice (some ⟨b, off, none⟩) L.length c) := by rw [hO.cell 0 (by decide)]; rfl
  have fr : w.frozen? ⟨g, 0, none⟩ = false := hO.soft 0
  have hlc := hS.le
  have hcm := hS.room
  have hsh := hS.short
  have HO : Hid (Own w g 136 1 [.slice (some ⟨b, off, none⟩) L.length c]) := hO
  have HS : Hid (Shows w (some ⟨b, off, none⟩) c L g) := hS
  clear hO hS
  go_enter Tryz.func122, Tryz.ntmps122
  by_cases h0 : L.length = 0
  · have h0i : ((L.length : Int) == 0) = true := by simp [h0]
    have HC : Hid (∀ u r, FormV u → InI u.n → InI (u.s.size : Int) → L ≠ encVal u ++ r) := fun u r _ _ _ h => by
      have := congrArg List.length h
      rw [List.length_append] at this
      have h2 := encVal_pos u
      omega
    go_wp2
    exact bodyPost_ret (v := .tuple #[.agg #[.int .i64 0, .int .i64 0, .string ⟨#[]⟩], .bool false]) (by simp [results, Tryz.results122, go_sem]) rfl
      ⟨⟨0, 0, ⟨#[]⟩⟩, false, L, rfl, grown_below (bel1 _ _), HR.out.later (bel1 _ _), Nat.le_refl _, InI.zero, Nat.zero_le _, (fun h => by cases h), fun _ => HC.out⟩
  · have h0i : ((L.length : Int) == 0) = false := by rw [beq_eq_false_iff_ne]; omega
    have HEN : Hid (∀ W, Below w.heap.size w W → Calls Tryz.prog 71 #[.pointer (some ⟨g, 0, none⟩)] W fun e w' => e = .returned (.bool false) ∧ w' = W) := fun W hW => by
      have := ended_any g L W (HR.out.later hW)
      rw [h0i] at this
      exact this
    obtain ⟨b', off', e, c1⟩ := HS.out.bytes 0 (by omega)
    cases e
    have hbl : b < w.heap.size := Nat.lt_trans (HS.out.apart ⟨b, off, none⟩ rfl) hgl
    have hx2 := UInt8.toNat_lt (lat L 0)
    obtain ⟨X, hX⟩ : ∃ X : Nat, X = (lat L 0).toNat := ⟨_, rfl⟩
    rw [Nat.add_zero, ← hX] at c1
    rw [← hX] at hx2
    have hX0 : (0 : Int) ≤ (X : Int) := by omega
    have hX1 : (X : Int) ≤ 255 := by omega
    have hl0 : (0 : Int) < (L.length : Int) := by omega
    obtain ⟨o', eA, ho⟩ : ∃ o', (if c = 1 then some (Addr.mk b off none) else some (Addr.mk b (off + 1) none)) = some (Addr.mk b o' none) ∧ (o' = off + 1 ∨ c = 1) := by
      by_cases hck : c = 1
      · exact ⟨off, by rw [if_pos hck], .inr hck⟩
      · exact ⟨off + 1, by rw [if_neg hck], .inl rfl⟩
    have hS1 := slice_from b off L.length c 1 1 rfl (by omega) o' eA
    have hS2 := sliceAt_from b off L.length c 1 1 rfl (by omega) o' eA
    have HX : Hid (X = (lat L 0).toNat) := hX
    have HL : Hid (L = kb (X : Int) :: L.drop 1) := by
      rw [Hid]
      have e : kb (X : Int) = L[0] := by
        unfold kb
        rw [hX, show lat L 0 = L[0] by simp [lat, show 0 < L.length by omega]]
        have := UInt8.toNat_lt L[0]
        rw [show (((L[0].toNat : Nat) : Int) % 256).toNat = L[0].toNat by omega, ofNat_toNat]
      rw [e, ← List.drop_eq_getElem_cons (by omega)]
      rfl
    have hdl : (L.drop 1).length ≤ L.length := by rw [List.length_drop]; omega
    obtain ⟨hRd, hGd⟩ := Rd.on HO.out HS.out (show 1 ≤ L.length by omega) ho
    have hO2 := Own.new (w.setCell ⟨g, 0, none⟩ (.slice (some ⟨b, o', none⟩) (L.length - 1) (c - 1))) 48 3 #[.int .i64 0, .int .i64 0, .string ⟨#[]⟩] rfl
    have hO4 := Own.new ((w.setCell ⟨g, 0, none⟩ (.slice (some ⟨b, o', none⟩) (L.length - 1) (c - 1))).alloc (.cells #[.int .i64 0, .int .i64 0, .string ⟨#[]⟩] 48)) 48 3 #[.int .i64 (X : Int), .int .i64 0, .string ⟨#[]⟩] rfl
    replace hO2 := hO2.later (bel1 _ (.cells #[.int .i64 (X : Int), .int .i64 0, .string ⟨#[]⟩] 48))
    have hG1 := grown_trans hGd (grown_trans (grown_below (r := some g) (bel1 _ (.cells #[.int .i64 0, .int .i64 0, .string ⟨#[]⟩] 48))) (grown_below (r := some g) (bel1 _ (.cells #[.int .i64 (X : Int), .int .i64 0, .string ⟨#[]⟩] 48))))
    have hR1 := (hRd.later (bel1 _ (.cells #[.int .i64 0, .int .i64 0, .string ⟨#[]⟩] 48))).later (bel1 _ (.cells #[.int .i64 (X : Int), .int .i64 0, .string ⟨#[]⟩] 48))
    generalize hW1 : ((w.setCell ⟨g, 0, none⟩ (.slice (some ⟨b, o', none⟩) (L.length - 1) (c - 1))).alloc (.cells #[.int .i64 0, .int .i64 0, .string ⟨#[]⟩] 48)).alloc (.cells #[.int .i64 (X : Int), .int .i64 0, .string ⟨#[]⟩] 48) = W1 at hO2 hO4 hG1 hR1
    rw [size_set] at hO2
    rw [show ((w.setCell ⟨g, 0, none⟩ (.slice (some ⟨b, o', none⟩) (L.length - 1) (c - 1))).alloc (.cells #[.int .i64 0, .int .i64 0, .string ⟨#[]⟩] 48)).heap.size = w.heap.size + 1 by simp] at hO4
    have HW1 : Hid (((w.setCell ⟨g, 0, none⟩ (.slice (some ⟨b, o', none⟩) (L.length - 1) (c - 1))).alloc (.cells #[.int .i64 0, .int .i64 0, .string ⟨#[]⟩] 48)).alloc (.cells #[.int .i64 (X : Int), .int .i64 0, .string ⟨#[]⟩] 48) = W1) := hW1
    have HO2 : Hid (Own W1 w.heap.size 48 3 [.int .i64 0, .int .i64 0, .string ⟨#[]⟩]) := hO2
    have HO4 : Hid (Own W1 (w.heap.size + 1) 48 3 [.int .i64 (X : Int), .int .i64 0, .string ⟨#[]⟩]) := hO4
    have HG1 : Hid (w.grownBy W1 (some g)) := hG1
    have HR1 : Hid (Rd W1 g (L.drop 1)) := hR1
    have HRd : Hid (Rd (w.setCell ⟨g, 0, none⟩ (.slice (some ⟨b, o', none⟩) (L.length - 1) (c - 1))) g (L.drop 1)) := hRd
    have HGd : Hid (w.grownBy (w.setCell ⟨g, 0, none⟩ (.slice (some ⟨b, o', none⟩) (L.length - 1) (c - 1))) (some g)) := hGd
    clear eA ho hX hO2 hO4 hG1 hR1 hRd hGd hW1 HR HO HS
    by_cases hx1 : (X : Int) = 1 ∨ (X : Int) = 2
    · have HT : Hid (∀ n s, encVal ⟨(X : Int), n, s⟩ = kb (X : Int) :: encInt n) := fun n s => by unfold encVal encTail; rw [if_pos hx1]
      have HF : Hid (∀ n, FormV ⟨(X : Int), n, ⟨#[]⟩⟩) := fun n => ⟨hX0, by simp only; omega, fun h => absurd hx1 h, fun _ => rfl⟩
      have HNN : Hid ((∀ m s, InI m → L.drop 1 ≠ encInt m ++ s) → ∀ u r, FormV u → InI u.n → InI (u.s.size : Int) → L ≠ encVal u ++ r) := fun h => val_no_num hx2 hx1 HL.out h
      rcases hx1 with hx | hx
      all_goals
        rw [hx] at HO4 HW1 HL HT HF
        go_wp2_with (first | (go_at_call 71; refine (HEN.out _ (by first | exact bel1 _ _ | exact Below.refl _ _)).mono ?_; rintro e w9 ⟨rfl, hw9⟩; subst hw9))
        rw [HW1.out]
        refine (num_any g (L.drop 1) W1 HR1.out).mono ?_
        rintro e w2 ⟨n, ok, L2, rfl, hin, hg2, hR2, hl2, hy, hn⟩
        have hO2 := HO2.out.grown hg2 (by simp; omega)
        have hO4 := HO4.out.grown hg2 (by simp; omega)
        have d0 := hO4.cell 0 (by decide)
        have d1 := hO4.cell 1 (by decide)
        have d2 := hO4.cell 2 (by decide)
        have f1 := hO4.soft 1
        have e0 := hO2.cell 0 (by decide)
        have e1 := hO2.cell 1 (by decide)
        have e2 := hO2.cell 2 (by decide)
        have q0 := hO2.soft 0
        have q1 := hO2.soft 1
        have q2 := hO2.soft 2
        have HG2 : Hid (w.grownBy w2 (some g)) := grown_trans HG1.out hg2
        have HR2 : Hid (Rd w2 g L2) := hR2
        have HYV : Hid (ok = true → FormV ⟨_, n, ⟨#[]⟩⟩ ∧ L = encVal ⟨_, n, ⟨#[]⟩⟩ ++ L2) := fun h => ⟨HF.out n, by rw [HT.out, List.cons_append, ← hy h]; exact HL.out⟩
        have HNV : Hid (ok = false → ∀ u r, FormV u → InI u.n → InI (u.s.size : Int) → L ≠ encVal u ++ r) := fun h => HNN.out (hn h)
        have HII : Hid (InI n) := hin
        clear hg2 hR2 hO2 hO4 HO2 HO4 HG1 HR1 hy hn HT HF HNN hin
        simp at d0 d1 d2 e0 e1 e2
        go_wp2
        exact bodyPost_ret (v := .tuple #[.agg #[.int .i64 _, .int .i64 n, .string ⟨#[]⟩], .bool ok]) (by simp [results, Tryz.results122, go_sem, e0, e1, e2]) rfl
          ⟨⟨_, n, ⟨#[]⟩⟩, ok, L2, rfl, by repeat (first | exact HG2.out | refine grown_new ?_ (grown_set _ _ _) (fun k hk => by cases hk; simp)), by repeat (first | exact HR2.out | refine Rd.grown ?_ (grown_set _ _ _) (fun k hk => by cases hk; simp; omega)), Nat.le_trans hl2 hdl, HII.out, Nat.zero_le _, HYV.out, HNV.out⟩
    · by_cases hx3 : (X : Int) = 3
      · have HT : Hid (∀ n s, encVal ⟨(X : Int), n, s⟩ = kb (X : Int) :: (encInt (s.size : Int) ++ s.data.toList)) := fun n s => by unfold encVal encTail; rw [if_neg hx1, if_pos hx3]
        have HF : Hid (∀ s, FormV ⟨(X : Int), 0, s⟩) := fun s => ⟨hX0, by simp only; omega, fun _ => rfl, fun h => absurd hx3 h⟩
        have HNN : Hid ((∀ (t : ByteArray) r, InI (t.size : Int) → L.drop 1 ≠ (encInt (t.size : Int) ++ t.data.toList) ++ r) → ∀ u r, FormV u → InI u.n → InI (u.s.size : Int) → L ≠ encVal u ++ r) := fun h => val_no_text hx3 HL.out h
        clear hx1
        rw [hx3] at HO4 HW1 HL HT HF
        go_wp2_with (first | (go_at_call 71; refine (HEN.out _ (by first | exact bel1 _ _ | exact Below.refl _ _)).mono ?_; rintro e w9 ⟨rfl, hw9⟩; subst hw9))
        rw [HW1.out]
        refine (text_any g (L.drop 1) W1 HR1.out).mono ?_
        rintro e w2 ⟨s, ok, L2, rfl, hg2, hR2, hl2, hss, hy, hn⟩
        have hO2 := HO2.out.grown hg2 (by simp; omega)
        have hO4 := HO4.out.grown hg2 (by simp; omega)
        have d0 := hO4.cell 0 (by decide)
        have d1 := hO4.cell 1 (by decide)
        have d2 := hO4.cell 2 (by decide)
        have f1 := hO4.soft 2
        have e0 := hO2.cell 0 (by decide)
        have e1 := hO2.cell 1 (by decide)
        have e2 := hO2.cell 2 (by decide)
        have q0 := hO2.soft 0
        have q1 := hO2.soft 1
        have q2 := hO2.soft 2
        have HG2 : Hid (w.grownBy w2 (some g)) := grown_trans HG1.out hg2
        have HR2 : Hid (Rd w2 g L2) := hR2
        have HYV : Hid (ok = true → FormV ⟨3, 0, s⟩ ∧ L = encVal ⟨3, 0, s⟩ ++ L2) := fun h => ⟨HF.out s, by rw [HT.out, List.cons_append, ← hy h]; exact HL.out⟩
        have HNV : Hid (ok = false → ∀ u r, FormV u → InI u.n → InI (u.s.size : Int) → L ≠ encVal u ++ r) := fun h => HNN.out (hn h)
        clear hg2 hR2 hO2 hO4 HO2 HO4 HG1 HR1 hy hn HT HF HNN
        simp at d0 d1 d2 e0 e1 e2
        go_wp2
        exact bodyPost_ret (v := .tuple #[.agg #[.int .i64 3, .int .i64 0, .string s], .bool ok]) (by simp [results, Tryz.results122, go_sem, e0, e1, e2]) rfl
          ⟨⟨3, 0, s⟩, ok, L2, rfl, by repeat (first | exact HG2.out | refine grown_new ?_ (grown_set _ _ _) (fun k hk => by cases hk; simp)), by repeat (first | exact HR2.out | refine Rd.grown ?_ (grown_set _ _ _) (fun k hk => by cases hk; simp; omega)), Nat.le_trans hl2 hdl, InI.zero, Nat.le_trans hss hdl, HYV.out, HNV.out⟩
      · have HYV : Hid (FormV ⟨(X : Int), 0, ⟨#[]⟩⟩ ∧ L = encVal ⟨(X : Int), 0, ⟨#[]⟩⟩ ++ L.drop 1) := by
          refine ⟨⟨hX0, by simp only; omega, fun _ => rfl, fun _ => rfl⟩, ?_⟩
          unfold encVal encTail
          rw [if_neg hx1, if_neg hx3]
          exact HL.out
        have hb1 : ((X : Int) == 1) = false := by rw [beq_eq_false_iff_ne]; exact fun h => hx1 (.inl h)
        have hb2 : ((X : Int) == 2) = false := by rw [beq_eq_false_iff_ne]; exact fun h => hx1 (.inr h)
        have hb3 : ((X : Int) == 3) = false := by rw [beq_eq_false_iff_ne]; exact hx3
        clear hx1 hx3
        go_wp2
        exact bodyPost_ret (v := .tuple #[.agg #[.int .i64 (X : Int), .int .i64 0, .string ⟨#[]⟩], .bool true]) (by simp [results, Tryz.results122, go_sem]) rfl
          ⟨⟨(X : Int), 0, ⟨#[]⟩⟩, true, L.drop 1, rfl, grown_trans HGd.out (grown_trans (grown_below (bel1 _ _)) (grown_below (bel1 _ _))), (HRd.out.later (bel1 _ _)).later (bel1 _ _), hdl, InI.zero, Nat.zero_le _, fun _ => HYV.out, fun h => by cases h⟩
end Go.Proofs.YtobhccmnlmlapaaGreatDoor.Wr
