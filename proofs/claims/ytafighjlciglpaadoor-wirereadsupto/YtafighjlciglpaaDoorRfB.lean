import Derived.Test.YtafighjlciglpaaDoorRfA
namespace Go.Proofs.YtafighjlciglpaaDoor
open Go.RowKit
set_option linter.unusedVariables false
set_option maxRecDepth 100000

theorem slice_any (b o len cap lo hi : Nat) (z1 z2 : Int) (hz1 : z1 = (lo : Int)) (hz2 : z2 = (hi : Int)) (h1 : lo ≤ hi) (h2 : hi ≤ cap) (o' : Nat) (eA : (if cap = lo then some (Addr.mk b o none) else some (Addr.mk b (o + lo) none)) = some (Addr.mk b o' none)) (W : World) :
    (Instr.slice 22 (.slice (some ⟨b, o, none⟩) len cap) (some (.int .i64 z1)) (some (.int .i64 z2)) none).run Tryd.prog W = .ok (.slice (some ⟨b, o', none⟩) (hi - lo) (cap - lo)) W := by
  subst hz1 hz2
  rw [run_slice_lh (P := Tryd.prog) W 22 (some ⟨b, o, none⟩) len cap (Tryd.underlying22.trans (by kernel_rfl)) .i64 .i64 _ _ (by omega) (by omega) (by omega)]
  rw [Int.toNat_natCast, Int.toNat_natCast]
  have hs : (sizeOf (Tryd.prog.elem 22)).run Tryd.prog W = .ok 1 W := by
    rw [show Tryd.prog.elem 22 = 5 by kernel_rfl]; exact Tryd.sizeOf5 W
  rw [hs]
  simp only [Result.andThen, sliced, Nat.mul_one, Option.map]
  rw [show ∀ j, (Addr.mk b o none).add j = Addr.mk b (o + j) none from fun j => WideShapes.add_plain .., eA]
theorem sliceAt_any (b o len cap lo hi : Nat) (z1 z2 : Int) (hz1 : z1 = (lo : Int)) (hz2 : z2 = (hi : Int)) (h1 : lo ≤ hi) (h2 : hi ≤ cap) (o' : Nat) (eA : (if cap = lo then some (Addr.mk b o none) else some (Addr.mk b (o + lo) none)) = some (Addr.mk b o' none)) (W : World) :
    (Instr.sliceAt 22 (.slice (some ⟨b, o, none⟩) len cap) (some (.int .i64 z1)) (some (.int .i64 z2)) none).run Tryd.prog W = .ok (.slice (some ⟨b, o', none⟩) (hi - lo) (cap - lo)) W := by
  rw [run_sliceAt_slice W 22 _ _ _ _ (Tryd.underlying22.trans (by kernel_rfl))]
  exact slice_any b o len cap lo hi z1 z2 hz1 hz2 h1 h2 o' eA W

/-- What the document's text gives. -/
def TextR (w : World) (g : Nat) (a : Option Addr) (c : Nat) (B : List UInt8) (at_ : Nat) (bad : Bool) (e : Ending) (w' : World) : Prop := ∃ (s : ByteArray) (at' : Nat) (bad' : Bool), e = .returned (.string s) ∧ w.grownBy w' (some g) ∧ In w' g a c B at' bad' ∧ at_ ≤ at' ∧ s.size ≤ B.length ∧
      (bad = true → bad' = true) ∧ (bad' = false → B.drop at_ = (encInt (s.size : Int) ++ s.data.toList) ++ B.drop at') ∧ (bad = false → bad' = true → ∀ (t : ByteArray) r, InI (t.size : Int) → B.drop at_ ≠ (encInt (t.size : Int) ++ t.data.toList) ++ r)

set_option maxHeartbeats 8000000 in
theorem textR_any (g : Nat) (a : Option Addr) (c : Nat) (B : List UInt8) (at_ : Nat) (bad : Bool) (w : World) (hI : In w g a c B at_ bad) :
    Calls Tryd.prog 32 #[.pointer (some ⟨g, 0, none⟩)] w (TextR w g a c B at_ bad) := by
  have HI : Hid (In w g a c B at_ bad) := hI
  clear hI
  go_enter Tryd.func32, Tryd.ntmps32
  go_wp2_with fail
  refine (numR_any g a c B at_ bad w HI.out).mono ?_
  rintro e w1 ⟨n, at1, bad1, rfl, hin, hg1, hI1, hat1, hbb, hy, hn⟩
  have HG1 : Hid (w.grownBy w1 (some g)) := hg1
  have HI1 : Hid (In w1 g a c B at1 bad1) := hI1
  have HBB : Hid (bad = true → bad1 = true) := hbb
  have HY : Hid (bad1 = false → B.drop at_ = encInt n ++ B.drop at1) := hy
  have HN : Hid (bad = false → bad1 = true → ∀ m s, InI m → B.drop at_ ≠ encInt m ++ s) := hn
  have d0 : w1.cell? ⟨g, 0, none⟩ = some (.slice a B.length c) := by rw [hI1.own.cell 0 (by decide)]; rfl
  have d1 : w1.cell? ⟨g, 1, none⟩ = some (.int .i64 (at1 : Int)) := by rw [hI1.own.cell 1 (by decide)]; rfl
  have d2 : w1.cell? ⟨g, 2, none⟩ = some (.bool bad1) := by rw [hI1.own.cell 2 (by decide)]; rfl
  have f1 := hI1.own.soft 1
  have f2 := hI1.own.soft 2
  have hw1 := hI1.within
  have hlc := hI1.le
  have hcm := hI1.room
  have hwr : IntKind.i64.wrap ((B.length : Int) - (at1 : Int)) = (B.length : Int) - (at1 : Int) := by rw [wrapI64]; omega
  clear hg1 hI1 hbb hy hn HI
  by_cases hbad : bad1 = true ∨ (bad1 = false ∧ (n < 0 ∨ (¬ n < 0 ∧ (B.length : Int) - (at1 : Int) < n)))
  · have FIN : Hid (∀ q, TextR w g a c B at_ bad (.returned (.string ⟨#[]⟩)) ((w1.drewN q).setCell ⟨g, 2, none⟩ (.bool true))) := fun q => by
      obtain ⟨h1, h2⟩ := (HI1.out.later (below_drewN (Below.refl _ _) q)).mark true
      refine ⟨⟨#[]⟩, at1, true, rfl, grown_trans HG1.out (grown_trans (grown_below (below_drewN (Below.refl _ _) q)) h2), h1, hat1, Nat.zero_le _, fun _ => rfl, (fun h => by cases h), fun hb0 _ t r ht h => ?_⟩
      rw [List.append_assoc] at h
      rcases hbad with hb | ⟨hb, hb2⟩
      · exact HN.out hb0 hb _ _ ht h
      · rw [HY.out hb] at h
        obtain ⟨e1, e2⟩ := encInt_pf h
        have := congrArg List.length e2
        rw [List.length_append, List.length_drop, show t.data.toList.length = t.size by simp] at this
        omega
    rcases hbad with rfl | ⟨rfl, hb1 | ⟨hb1, hb2⟩⟩
    · go_wp2
      go_quiet (fail)
      go_wp2
      go_ret
      exact FIN.out _
    · go_wp2
      go_quiet (fail)
      go_wp2
      go_ret
      exact FIN.out _
    · go_wp2
      go_quiet (fail)
      go_wp2
      go_ret
      exact FIN.out _
  · cases bad1 with
    | true => exact absurd (.inl rfl) hbad
    | false =>
      have hn0 : ¬ n < 0 := fun h => hbad (.inr ⟨rfl, .inl h⟩)
      have hn1 : ¬ (B.length : Int) - (at1 : Int) < n := fun h => hbad (.inr ⟨rfl, .inr ⟨hn0, h⟩⟩)
      obtain ⟨m, rfl⟩ : ∃ m : Nat, n = (m : Int) := ⟨n.toNat, by omega⟩
      have hm : at1 + m ≤ B.length := by omega
      have HE : Hid (B.drop at_ = encInt (m : Int) ++ B.drop at1) := HY.out rfl
      have hB0 : 0 < B.length := by
        have := congrArg List.length HE.out
        rw [List.length_append, List.length_drop] at this
        have h2 := encInt_pos (m : Int)
        omega
      obtain ⟨b, off, rfl, -⟩ := HI1.out.bytes 0 hB0
      obtain ⟨o', eA, ho⟩ : ∃ o', (if c = at1 then some (Addr.mk b off none) else some (Addr.mk b (off + at1) none)) = some (Addr.mk b o' none) ∧ (o' = off + at1 ∨ c = at1) := by
        by_cases hck : c = at1
        · exact ⟨off, by rw [if_pos hck], .inr hck⟩
        · exact ⟨off + at1, by rw [if_neg hck], .inl rfl⟩
      have hS1 := slice_any b off B.length c at1 (at1 + m) (at1 : Int) ((at1 : Int) + (m : Int)) rfl (by omega) (by omega) (by omega) o' eA
      have hS2 := sliceAt_any b off B.length c at1 (at1 + m) (at1 : Int) ((at1 : Int) + (m : Int)) rfl (by omega) (by omega) (by omega) o' eA
      rw [show at1 + m - at1 = m by omega] at hS1 hS2
      have hbm := bstr_mid B at1 m hm
      have V2 : ∀ q, (convert 22 9 (.slice (some ⟨b, o', none⟩) m (c - at1))).run Tryd.prog (w1.drewN q) = .ok (.string (lstr ((B.drop at1).take m))) (w1.drewN q) := fun q => by
        have h := conv_bytes (w1.drewN q) (some ⟨b, o', none⟩) m (c - at1) (fun i => lat B (at1 + i)) (fun i hi => by
          obtain ⟨b', o2, e, hc⟩ := (HI1.out.bytes.later (below_drewN (Below.refl _ _) q)) (at1 + i) (by omega)
          cases e
          rcases ho with rfl | h
          · exact ⟨b, off + at1, rfl, by rw [Nat.add_assoc]; exact hc⟩
          · omega)
        rw [hbm] at h
        exact h
      have hsz : (lstr ((B.drop at1).take m)).size = m := by rw [lstr_size, List.length_take, List.length_drop]; omega
      have FIN : Hid (∀ q, TextR w g (some ⟨b, off, none⟩) c B at_ bad (.returned (.string (lstr ((B.drop at1).take m)))) ((w1.drewN q).setCell ⟨g, 1, none⟩ (.int .i64 ((at1 : Int) + (m : Int))))) := fun q => by
        obtain ⟨h1, h2⟩ := (HI1.out.later (below_drewN (Below.refl _ _) q)).move (at1 + m) hm
        rw [show ((at1 + m : Nat) : Int) = (at1 : Int) + (m : Int) by omega] at h1 h2
        refine ⟨_, at1 + m, false, rfl, grown_trans HG1.out (grown_trans (grown_below (below_drewN (Below.refl _ _) q)) h2), h1, by omega, by rw [hsz]; omega, fun h => HBB.out h, fun _ => ?_, fun h1 h2 => by cases h2⟩
        rw [hsz, HE.out, List.append_assoc, ← List.drop_drop]
        congr 1
        rw [show (lstr ((B.drop at1).take m)).data.toList = (B.drop at1).take m by simp [lstr], List.take_append_drop]
      clear eA ho hbad hbm hsz HBB HY HN
      generalize lstr ((B.drop at1).take m) = S at *
      have hg3 : decide ((B.length : Int) - (at1 : Int) < (m : Int)) = false := decide_eq_false hn1
      go_wp2
      go_quiet (fail)
      go_wp2
      go_quiet (fail)
      go_wp2
      go_ret
      exact FIN.out _
end Go.Proofs.YtafighjlciglpaaDoor
