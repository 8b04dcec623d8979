import Derived.Test.YtafighjlciglpaaDoorRfB
namespace Go.Proofs.YtafighjlciglpaaDoor
open Go.RowKit
set_option linter.unusedVariables false
set_option maxRecDepth 100000

/-- What the document's value gives. -/
def ValR (w : World) (g : Nat) (a : Option Addr) (c : Nat) (B : List UInt8) (at_ : Nat) (bad : Bool) (e : Ending) (w' : World) : Prop := ∃ (v : V) (at' : Nat) (bad' : Bool), e = .returned (.agg #[.int .i64 v.k, .int .i64 v.n, .string v.s]) ∧ w.grownBy w' (some g) ∧ In w' g a c B at' bad' ∧ at_ ≤ at' ∧ InI v.n ∧ v.s.size ≤ B.length ∧
      (bad = true → bad' = true) ∧ (bad' = false → validV v = true ∧ B.drop at_ = encVal v ++ B.drop at') ∧ (bad = false → bad' = true → ∀ u r, validV u = true → InI u.n → InI (u.s.size : Int) → B.drop at_ ≠ encVal u ++ r)

theorem valR_fin {w w3 : World} {g : Nat} {a : Option Addr} {c : Nat} {B : List UInt8} {at_ at1 : Nat} {bad bad1 : Bool} (v : V) (hF : FormV v) (hn : InI v.n) (hs : v.s.size ≤ B.length) (ha : at_ ≤ at1) (hbb : bad = true → bad1 = true)
    (hy : bad1 = false → B.drop at_ = encVal v ++ B.drop at1) (hno : bad = false → bad1 = true → ∀ u r, FormV u → InI u.n → InI (u.s.size : Int) → B.drop at_ ≠ encVal u ++ r) (hg : w.grownBy w3 (some g)) (bad' : Bool) (hb' : bad' = (bad1 || !validV v)) (hI : In w3 g a c B at1 bad') :
    ValR w g a c B at_ bad (.returned (.agg #[.int .i64 v.k, .int .i64 v.n, .string v.s])) w3 := by
  refine ⟨v, at1, bad', rfl, hg, hI, ha, hn, hs, fun h => by rw [hb', hbb h]; rfl, fun h => ?_, fun h0 h1 u r hu hi1 hi2 he => ?_⟩
  · rw [h] at hb'
    cases hb1 : bad1 with
    | true => rw [hb1] at hb'; simp at hb'
    | false =>
      rw [hb1] at hb'
      exact ⟨by simpa using hb', hy hb1⟩
  · cases hb1 : bad1 with
    | true => exact hno h0 hb1 u r (form_of_valid hu) hi1 hi2 he
    | false =>
      rw [hb1, h1] at hb'
      rw [hy hb1] at he
      obtain ⟨rfl, -⟩ := encVal_pf hF (form_of_valid hu) he
      rw [hu] at hb'
      simp at hb'

set_option maxHeartbeats 8000000 in
theorem valueR_any (g : Nat) (a : Option Addr) (c : Nat) (B : List UInt8) (at_ : Nat) (bad : Bool) (w : World) (hI : In w g a c B at_ bad) :
    Calls Tryd.prog 18 #[.pointer (some ⟨g, 0, none⟩)] w (ValR w g a c B at_ bad) := by
  have HI : Hid (In w g a c B at_ bad) := hI
  have hgl := hI.lt
  have d0 : w.cell? ⟨g, 0, none⟩ = some (.slice a B.length c) := by rw [hI.own.cell 0 (by decide)]; rfl
  have d1 : w.cell? ⟨g, 1, none⟩ = some (.int .i64 (at_ : Int)) := by rw [hI.own.cell 1 (by decide)]; rfl
  have d2 : w.cell? ⟨g, 2, none⟩ = some (.bool bad) := by rw [hI.own.cell 2 (by decide)]; rfl
  have f1 := hI.own.soft 1
  have f2 := hI.own.soft 2
  have hw1 := hI.within
  have hlc := hI.le
  have hcm := hI.room
  clear hI
  go_enter Tryd.func18, Tryd.ntmps18
  by_cases hend : at_ = B.length
  · have hge : (B.length : Int) ≤ (at_ : Int) := by omega
    have HO2 : Hid (Own (w.alloc (.cells #[.int .i64 0, .int .i64 0, .string ⟨#[]⟩] 57)) w.heap.size 57 3 [.int .i64 0, .int .i64 0, .string ⟨#[]⟩]) := Own.new w 57 3 #[.int .i64 0, .int .i64 0, .string ⟨#[]⟩] rfl
    have HC : Hid (∀ u r, validV u = true → InI u.n → InI (u.s.size : Int) → B.drop at_ ≠ encVal u ++ r) := fun u r _ _ _ h => by
      have := congrArg List.length h
      rw [List.length_append, List.length_drop] at this
      have h2 := encVal_pos u
      omega
    have HM : Hid (∀ q, In (((w.alloc (.cells #[.int .i64 0, .int .i64 0, .string ⟨#[]⟩] 57)).drewN q).setCell ⟨g, 2, none⟩ (.bool true)) g a c B at_ true ∧ w.grownBy (((w.alloc (.cells #[.int .i64 0, .int .i64 0, .string ⟨#[]⟩] 57)).drewN q).setCell ⟨g, 2, none⟩ (.bool true)) (some g)) := fun q => by
      have hb := below_drewN (bel1 w (.cells #[.int .i64 0, .int .i64 0, .string ⟨#[]⟩] 57)) q
      obtain ⟨h1, h2⟩ := (HI.out.later hb).mark true
      exact ⟨h1, grown_trans (grown_below hb) h2⟩
    go_wp2
    go_quiet (fail)
    go_wp2
    refine bodyPost_ret (v := .agg #[.int .i64 0, .int .i64 0, .string ⟨#[]⟩]) (by simp [results, Tryd.results18, go_sem]) rfl ⟨⟨0, 0, ⟨#[]⟩⟩, at_, true, rfl, ?_, ?_, Nat.le_refl _, InI.zero, Nat.zero_le _, fun _ => rfl, (fun h => by cases h), fun _ _ => HC.out⟩
    · repeat (first | exact (HM.out _).2 | refine grown_new ?_ (grown_set _ _ _) (fun k hk => by cases hk; simp))
    · repeat (first | exact (HM.out _).1 | refine In.grown ?_ (grown_set _ _ _) (fun k hk => by cases hk; simp; omega))
  · have hlt : at_ < B.length := by omega
    have hlti : (at_ : Int) < (B.length : Int) := by omega
    obtain ⟨b, off, rfl, cx⟩ := HI.out.bytes at_ hlt
    obtain ⟨X, hX⟩ : ∃ X : Nat, X = (lat B at_).toNat := ⟨_, rfl⟩
    rw [← hX] at cx
    have hx2 : X < 256 := by rw [hX]; exact UInt8.toNat_lt _
    have HX : Hid (X = (lat B at_).toNat) := hX
    have hX0 : (0 : Int) ≤ (X : Int) := by omega
    have hX1 : (X : Int) ≤ 255 := by omega
    have hbg : b < g := HI.out.apart ⟨b, off, none⟩ rfl
    have hbl : b < w.heap.size := by omega
    have HL : Hid (B.drop at_ = kb (X : Int) :: B.drop (at_ + 1)) := by
      rw [Hid]
      have e : kb (X : Int) = B[at_] := by
        unfold kb
        rw [hX, show lat B at_ = B[at_] by simp [lat, hlt]]
        have := UInt8.toNat_lt B[at_]
        rw [show (((B[at_].toNat : Nat) : Int) % 256).toNat = B[at_].toNat by omega, ofNat_toNat]
      rw [e, ← List.drop_eq_getElem_cons hlt]
    have HM : Hid (∀ q, In (((w.alloc (.cells #[.int .i64 0, .int .i64 0, .string ⟨#[]⟩] 57)).drewN q |>.setCell ⟨g, 1, none⟩ (.int .i64 ((at_ : Int) + 1))).alloc (.cells #[.int .i64 (X : Int), .int .i64 0, .string ⟨#[]⟩] 57)) g (some ⟨b, off, none⟩) c B (at_ + 1) bad ∧
        w.grownBy (((w.alloc (.cells #[.int .i64 0, .int .i64 0, .string ⟨#[]⟩] 57)).drewN q |>.setCell ⟨g, 1, none⟩ (.int .i64 ((at_ : Int) + 1))).alloc (.cells #[.int .i64 (X : Int), .int .i64 0, .string ⟨#[]⟩] 57)) (some g) ∧
        Own (((w.alloc (.cells #[.int .i64 0, .int .i64 0, .string ⟨#[]⟩] 57)).drewN q |>.setCell ⟨g, 1, none⟩ (.int .i64 ((at_ : Int) + 1))).alloc (.cells #[.int .i64 (X : Int), .int .i64 0, .string ⟨#[]⟩] 57)) w.heap.size 57 3 [.int .i64 0, .int .i64 0, .string ⟨#[]⟩] ∧
        Own (((w.alloc (.cells #[.int .i64 0, .int .i64 0, .string ⟨#[]⟩] 57)).drewN q |>.setCell ⟨g, 1, none⟩ (.int .i64 ((at_ : Int) + 1))).alloc (.cells #[.int .i64 (X : Int), .int .i64 0, .string ⟨#[]⟩] 57)) (w.heap.size + 1) 57 3 [.int .i64 (X : Int), .int .i64 0, .string ⟨#[]⟩]) := fun q => by
      have hb := below_drewN (bel1 w (.cells #[.int .i64 0, .int .i64 0, .string ⟨#[]⟩] 57)) q
      obtain ⟨h1, h2⟩ := (HI.out.later hb).move (at_ + 1) (by omega)
      rw [show ((at_ + 1 : Nat) : Int) = (at_ : Int) + 1 by omega] at h1 h2
      refine ⟨h1.later (bel1 _ _), grown_trans (grown_trans (grown_below hb) h2) (grown_below (bel1 _ _)), ?_, ?_⟩
      · exact (((Own.new w 57 3 #[.int .i64 0, .int .i64 0, .string ⟨#[]⟩] rfl).later (below_drewN (Below.refl _ _) q)).grown h2 (by simp; omega)).later (bel1 _ _)
      · have := Own.new (((w.alloc (.cells #[.int .i64 0, .int .i64 0, .string ⟨#[]⟩] 57)).drewN q).setCell ⟨g, 1, none⟩ (.int .i64 ((at_ : Int) + 1))) 57 3 #[.int .i64 (X : Int), .int .i64 0, .string ⟨#[]⟩] rfl
        rw [show (((w.alloc (.cells #[.int .i64 0, .int .i64 0, .string ⟨#[]⟩] 57)).drewN q).setCell ⟨g, 1, none⟩ (.int .i64 ((at_ : Int) + 1))).heap.size = w.heap.size + 1 by simp] at this
        exact this
    clear hX
    by_cases hx1 : (X : Int) = 1 ∨ (X : Int) = 2
    · have HT : Hid (∀ n s, encVal ⟨(X : Int), n, s⟩ = kb (X : Int) :: encInt n) := fun n s => by unfold encVal encTail; rw [if_pos hx1]
      have HF : Hid (∀ n, FormV ⟨(X : Int), n, ⟨#[]⟩⟩) := fun n => ⟨hX0, by simp only; omega, fun h => absurd hx1 h, fun _ => rfl⟩
      have HNN : Hid ((∀ m s, InI m → B.drop (at_ + 1) ≠ encInt m ++ s) → ∀ u r, FormV u → InI u.n → InI (u.s.size : Int) → B.drop at_ ≠ encVal u ++ r) := fun h => val_no_num hx2 hx1 HL.out h
      rcases hx1 with hx | hx
      · rw [hx] at cx HM HL HT HF
        go_wp2
        go_quiet (fail)
        go_wp2
        go_region_held3 (fun w' => w'.cell? ⟨g, 0, none⟩ = some (.slice (some ⟨b, off, none⟩) B.length c) ∧ w'.cell? ⟨g, 1, none⟩ = some (.int .i64 (at_ : Int)) ∧ w'.cell? ⟨b, off + at_, none⟩ = some (.int .u8 1)) (first | go_keep) (first | fail)
        go_wp2_with fail
        refine (numR_any g (some ⟨b, off, none⟩) c B (at_ + 1) bad _ (HM.out _).1).mono ?_
        rintro e w2 ⟨n, at1, bad1, rfl, hin, hg2, hI2, hat, hbb, hy, hn⟩
        have hO2 := (HM.out _).2.2.1.grown hg2 (by simp; omega)
        have hO4 := (HM.out _).2.2.2.grown hg2 (by simp; omega)
        have hGG := grown_trans (HM.out _).2.1 hg2
        obtain ⟨hO4', hg4⟩ := hO4.put 1 (.int .i64 n)
        have fq := hO4.soft 1
        have y0 := hO4.cell 0 (by decide)
        have y1 := hO4.cell 1 (by decide)
        have y2 := hO4.cell 2 (by decide)
        have HO4 : Hid (Own (w2.setCell ⟨w.heap.size + 1, 1, none⟩ (.int .i64 n)) (w.heap.size + 1) 57 3 [.int .i64 1, .int .i64 n, .string ⟨#[]⟩]) := hO4'
        have HO2 : Hid (Own (w2.setCell ⟨w.heap.size + 1, 1, none⟩ (.int .i64 n)) w.heap.size 57 3 [.int .i64 0, .int .i64 0, .string ⟨#[]⟩]) := hO2.grown hg4 (by simp)
        have HI2 : Hid (In (w2.setCell ⟨w.heap.size + 1, 1, none⟩ (.int .i64 n)) g (some ⟨b, off, none⟩) c B at1 bad1) := hI2.grown hg4 (fun k hk => by cases hk; omega)
        have HG2 : Hid (w.grownBy (w2.setCell ⟨w.heap.size + 1, 1, none⟩ (.int .i64 n)) (some g)) := grown_new hGG hg4 (fun k hk => by cases hk; omega)
        have HFI : Hid (∀ (bad' : Bool) w3, bad' = (bad1 || !validV ⟨1, n, ⟨#[]⟩⟩) → w.grownBy w3 (some g) → In w3 g (some ⟨b, off, none⟩) c B at1 bad' → ValR w g (some ⟨b, off, none⟩) c B at_ bad (.returned (.agg #[.int .i64 1, .int .i64 n, .string ⟨#[]⟩])) w3) := fun bad' w3 hb' hg' hi' =>
          valR_fin ⟨1, n, ⟨#[]⟩⟩ (HF.out n) hin (Nat.zero_le _ : (⟨#[]⟩ : ByteArray).size ≤ B.length) (by omega) hbb (fun h => by rw [HL.out, hy h, HT.out]; rfl) (fun h0 h1 => HNN.out (hn h0 h1)) hg' bad' hb' hi'
        have hssz : (⟨#[]⟩ : ByteArray).size ≤ maxLen := by show 0 ≤ maxLen; exact Nat.zero_le _
        clear hg2 hI2 hbb hy hn hO2 hO4 hGG hO4' hg4 HM
        simp at y0 y1 y2
        go_wp2_with fail
        refine (refValid_any ⟨1, n, ⟨#[]⟩⟩ _ hssz).mono ?_
        rintro e w3 ⟨rfl, hb3⟩
        have hO2 := HO2.out.later hb3
        have hO4 := HO4.out.later hb3
        have hI3 := HI2.out.later hb3
        have HI3 : Hid (In w3 g (some ⟨b, off, none⟩) c B at1 bad1) := hI3
        have HG3 : Hid (w.grownBy w3 (some g)) := grown_trans HG2.out (grown_below hb3)
        have z0 := hO2.cell 0 (by decide)
        have z1 := hO2.cell 1 (by decide)
        have z2 := hO2.cell 2 (by decide)
        have q0 := hO2.soft 0
        have q1 := hO2.soft 1
        have q2 := hO2.soft 2
        have t0 := hO4.cell 0 (by decide)
        have t1 := hO4.cell 1 (by decide)
        have t2 := hO4.cell 2 (by decide)
        have x2 : w3.cell? ⟨g, 2, none⟩ = some (.bool bad1) := by rw [hI3.own.cell 2 (by decide)]; rfl
        have r2 := hI3.own.soft 2
        clear hb3 hI3 hO2 hO4 HO2 HO4 HI2 HG2 y0 y1 y2 fq
        simp at z0 z1 z2 t0 t1 t2
        cases bad1 <;> cases hv : validV ⟨1, n, ⟨#[]⟩⟩
        all_goals
          rw [hv] at HFI
          go_wp2
          refine bodyPost_ret (v := .agg #[.int .i64 1, .int .i64 n, .string ⟨#[]⟩]) (by simp [results, Tryd.results18, go_sem, z0, z1, z2]) rfl (HFI.out _ _ rfl ?_ ?_)
          · repeat (first | exact grown_trans HG3.out (HI3.out.mark _).2 | refine grown_new ?_ (grown_set _ _ _) (fun k hk => by cases hk; simp))
          · repeat (first | exact (HI3.out.mark _).1 | refine In.grown ?_ (grown_set _ _ _) (fun k hk => by cases hk; simp; omega))
      · rw [hx] at cx HM HL HT HF
        go_wp2
        go_quiet (fail)
        go_wp2
        go_region_held3 (fun w' => w'.cell? ⟨g, 0, none⟩ = some (.slice (some ⟨b, off, none⟩) B.length c) ∧ w'.cell? ⟨g, 1, none⟩ = some (.int .i64 (at_ : Int)) ∧ w'.cell? ⟨b, off + at_, none⟩ = some (.int .u8 2)) (first | go_keep) (first | fail)
        go_wp2_with fail
        refine (numR_any g (some ⟨b, off, none⟩) c B (at_ + 1) bad _ (HM.out _).1).mono ?_
        rintro e w2 ⟨n, at1, bad1, rfl, hin, hg2, hI2, hat, hbb, hy, hn⟩
        have hO2 := (HM.out _).2.2.1.grown hg2 (by simp; omega)
        have hO4 := (HM.out _).2.2.2.grown hg2 (by simp; omega)
        have hGG := grown_trans (HM.out _).2.1 hg2
        obtain ⟨hO4', hg4⟩ := hO4.put 1 (.int .i64 n)
        have fq := hO4.soft 1
        have y0 := hO4.cell 0 (by decide)
        have y1 := hO4.cell 1 (by decide)
        have y2 := hO4.cell 2 (by decide)
        have HO4 : Hid (Own (w2.setCell ⟨w.heap.size + 1, 1, none⟩ (.int .i64 n)) (w.heap.size + 1) 57 3 [.int .i64 2, .int .i64 n, .string ⟨#[]⟩]) := hO4'
        have HO2 : Hid (Own (w2.setCell ⟨w.heap.size + 1, 1, none⟩ (.int .i64 n)) w.heap.size 57 3 [.int .i64 0, .int .i64 0, .string ⟨#[]⟩]) := hO2.grown hg4 (by simp)
        have HI2 : Hid (In (w2.setCell ⟨w.heap.size + 1, 1, none⟩ (.int .i64 n)) g (some ⟨b, off, none⟩) c B at1 bad1) := hI2.grown hg4 (fun k hk => by cases hk; omega)
        have HG2 : Hid (w.grownBy (w2.setCell ⟨w.heap.size + 1, 1, none⟩ (.int .i64 n)) (some g)) := grown_new hGG hg4 (fun k hk => by cases hk; omega)
        have HFI : Hid (∀ (bad' : Bool) w3, bad' = (bad1 || !validV ⟨2, n, ⟨#[]⟩⟩) → w.grownBy w3 (some g) → In w3 g (some ⟨b, off, none⟩) c B at1 bad' → ValR w g (some ⟨b, off, none⟩) c B at_ bad (.returned (.agg #[.int .i64 2, .int .i64 n, .string ⟨#[]⟩])) w3) := fun bad' w3 hb' hg' hi' =>
          valR_fin ⟨2, n, ⟨#[]⟩⟩ (HF.out n) hin (Nat.zero_le _ : (⟨#[]⟩ : ByteArray).size ≤ B.length) (by omega) hbb (fun h => by rw [HL.out, hy h, HT.out]; rfl) (fun h0 h1 => HNN.out (hn h0 h1)) hg' bad' hb' hi'
        have hssz : (⟨#[]⟩ : ByteArray).size ≤ maxLen := by show 0 ≤ maxLen; exact Nat.zero_le _
        clear hg2 hI2 hbb hy hn hO2 hO4 hGG hO4' hg4 HM
        simp at y0 y1 y2
        go_wp2_with fail
        refine (refValid_any ⟨2, n, ⟨#[]⟩⟩ _ hssz).mono ?_
        rintro e w3 ⟨rfl, hb3⟩
        have hO2 := HO2.out.later hb3
        have hO4 := HO4.out.later hb3
        have hI3 := HI2.out.later hb3
        have HI3 : Hid (In w3 g (some ⟨b, off, none⟩) c B at1 bad1) := hI3
        have HG3 : Hid (w.grownBy w3 (some g)) := grown_trans HG2.out (grown_below hb3)
        have z0 := hO2.cell 0 (by decide)
        have z1 := hO2.cell 1 (by decide)
        have z2 := hO2.cell 2 (by decide)
        have q0 := hO2.soft 0
        have q1 := hO2.soft 1
        have q2 := hO2.soft 2
        have t0 := hO4.cell 0 (by decide)
        have t1 := hO4.cell 1 (by decide)
        have t2 := hO4.cell 2 (by decide)
        have x2 : w3.cell? ⟨g, 2, none⟩ = some (.bool bad1) := by rw [hI3.own.cell 2 (by decide)]; rfl
        have r2 := hI3.own.soft 2
        clear hb3 hI3 hO2 hO4 HO2 HO4 HI2 HG2 y0 y1 y2 fq
        simp at z0 z1 z2 t0 t1 t2
        cases bad1 <;> cases hv : validV ⟨2, n, ⟨#[]⟩⟩
        all_goals
          rw [hv] at HFI
          go_wp2
          refine bodyPost_ret (v := .agg #[.int .i64 2, .int .i64 n, .string ⟨#[]⟩]) (by simp [results, Tryd.results18, go_sem, z0, z1, z2]) rfl (HFI.out _ _ rfl ?_ ?_)
          · repeat (first | exact grown_trans HG3.out (HI3.out.mark _).2 | refine grown_new ?_ (grown_set _ _ _) (fun k hk => by cases hk; simp))
          · repeat (first | exact (HI3.out.mark _).1 | refine In.grown ?_ (grown_set _ _ _) (fun k hk => by cases hk; simp; omega))
    · by_cases hx3 : (X : Int) = 3
      · have HT : Hid (∀ n s, encVal ⟨(X : Int), n, s⟩ = kb (X : Int) :: (encInt (s.size : Int) ++ s.data.toList)) := fun n s => by unfold encVal encTail; rw [if_neg hx1, if_pos hx3]
        have HF : Hid (∀ s, FormV ⟨(X : Int), 0, s⟩) := fun s => ⟨hX0, by simp only; omega, fun _ => rfl, fun h => absurd hx3 h⟩
        have HNN : Hid ((∀ (t : ByteArray) r, InI (t.size : Int) → B.drop (at_ + 1) ≠ (encInt (t.size : Int) ++ t.data.toList) ++ r) → ∀ u r, FormV u → InI u.n → InI (u.s.size : Int) → B.drop at_ ≠ encVal u ++ r) := fun h => val_no_text hx3 HL.out h
        clear hx1
        rw [hx3] at cx HM HL HT HF
        go_wp2
        go_quiet (fail)
        go_wp2
        go_region_held3 (fun w' => w'.cell? ⟨g, 0, none⟩ = some (.slice (some ⟨b, off, none⟩) B.length c) ∧ w'.cell? ⟨g, 1, none⟩ = some (.int .i64 (at_ : Int)) ∧ w'.cell? ⟨b, off + at_, none⟩ = some (.int .u8 3)) (first | go_keep) (first | fail)
        go_wp2_with fail
        refine (textR_any g (some ⟨b, off, none⟩) c B (at_ + 1) bad _ (HM.out _).1).mono ?_
        rintro e w2 ⟨s, at1, bad1, rfl, hg2, hI2, hat, hss, hbb, hy, hn⟩
        have hO2 := (HM.out _).2.2.1.grown hg2 (by simp; omega)
        have hO4 := (HM.out _).2.2.2.grown hg2 (by simp; omega)
        have hGG := grown_trans (HM.out _).2.1 hg2
        obtain ⟨hO4', hg4⟩ := hO4.put 2 (.string s)
        have fq := hO4.soft 2
        have y0 := hO4.cell 0 (by decide)
        have y1 := hO4.cell 1 (by decide)
        have y2 := hO4.cell 2 (by decide)
        have HO4 : Hid (Own (w2.setCell ⟨w.heap.size + 1, 2, none⟩ (.string s)) (w.heap.size + 1) 57 3 [.int .i64 3, .int .i64 0, .string s]) := hO4'
        have HO2 : Hid (Own (w2.setCell ⟨w.heap.size + 1, 2, none⟩ (.string s)) w.heap.size 57 3 [.int .i64 0, .int .i64 0, .string ⟨#[]⟩]) := hO2.grown hg4 (by simp)
        have HI2 : Hid (In (w2.setCell ⟨w.heap.size + 1, 2, none⟩ (.string s)) g (some ⟨b, off, none⟩) c B at1 bad1) := hI2.grown hg4 (fun k hk => by cases hk; omega)
        have HG2 : Hid (w.grownBy (w2.setCell ⟨w.heap.size + 1, 2, none⟩ (.string s)) (some g)) := grown_new hGG hg4 (fun k hk => by cases hk; omega)
        have HFI : Hid (∀ (bad' : Bool) w3, bad' = (bad1 || !validV ⟨3, 0, s⟩) → w.grownBy w3 (some g) → In w3 g (some ⟨b, off, none⟩) c B at1 bad' → ValR w g (some ⟨b, off, none⟩) c B at_ bad (.returned (.agg #[.int .i64 3, .int .i64 0, .string s])) w3) := fun bad' w3 hb' hg' hi' =>
          valR_fin ⟨3, 0, s⟩ (HF.out s) InI.zero hss (by omega) hbb (fun h => by rw [HL.out, hy h, HT.out]; rfl) (fun h0 h1 => HNN.out (hn h0 h1)) hg' bad' hb' hi'
        have hssz : (s : ByteArray).size ≤ maxLen := by have h := hss; unfold maxLen; omega
        clear hg2 hI2 hbb hy hn hO2 hO4 hGG hO4' hg4 HM
        simp at y0 y1 y2
        go_wp2_with fail
        refine (refValid_any ⟨3, 0, s⟩ _ hssz).mono ?_
        rintro e w3 ⟨rfl, hb3⟩
        have hO2 := HO2.out.later hb3
        have hO4 := HO4.out.later hb3
        have hI3 := HI2.out.later hb3
        have HI3 : Hid (In w3 g (some ⟨b, off, none⟩) c B at1 bad1) := hI3
        have HG3 : Hid (w.grownBy w3 (some g)) := grown_trans HG2.out (grown_below hb3)
        have z0 := hO2.cell 0 (by decide)
        have z1 := hO2.cell 1 (by decide)
        have z2 := hO2.cell 2 (by decide)
        have q0 := hO2.soft 0
        have q1 := hO2.soft 1
        have q2 := hO2.soft 2
        have t0 := hO4.cell 0 (by decide)
        have t1 := hO4.cell 1 (by decide)
        have t2 := hO4.cell 2 (by decide)
        have x2 : w3.cell? ⟨g, 2, none⟩ = some (.bool bad1) := by rw [hI3.own.cell 2 (by decide)]; rfl
        have r2 := hI3.own.soft 2
        clear hb3 hI3 hO2 hO4 HO2 HO4 HI2 HG2 y0 y1 y2 fq
        simp at z0 z1 z2 t0 t1 t2
        cases bad1 <;> cases hv : validV ⟨3, 0, s⟩
        all_goals
          rw [hv] at HFI
          go_wp2
          refine bodyPost_ret (v := .agg #[.int .i64 3, .int .i64 0, .string s]) (by simp [results, Tryd.results18, go_sem, z0, z1, z2]) rfl (HFI.out _ _ rfl ?_ ?_)
          · repeat (first | exact grown_trans HG3.out (HI3.out.mark _).2 | refine grown_new ?_ (grown_set _ _ _) (fun k hk => by cases hk; simp))
          · repeat (first | exact (HI3.out.mark _).1 | refine In.grown ?_ (grown_set _ _ _) (fun k hk => by cases hk; simp; omega))
      · have HT : Hid (encVal ⟨(X : Int), 0, ⟨#[]⟩⟩ = [kb (X : Int)]) := by unfold Hid encVal encTail; rw [if_neg hx1, if_neg hx3]
        have HF : Hid (FormV ⟨(X : Int), 0, ⟨#[]⟩⟩) := ⟨hX0, by simp only; omega, fun _ => rfl, fun _ => rfl⟩
        have hb1 : ((X : Int) == 1) = false := by rw [beq_eq_false_iff_ne]; exact fun h => hx1 (.inl h)
        have hb2 : ((X : Int) == 2) = false := by rw [beq_eq_false_iff_ne]; exact fun h => hx1 (.inr h)
        have hb3 : ((X : Int) == 3) = false := by rw [beq_eq_false_iff_ne]; exact hx3
        have hwX : IntKind.i64.wrap (X : Int) = (X : Int) := by rw [wrapI64]; omega
        have HFI : Hid (∀ (bad' : Bool) w3, bad' = (bad || !validV ⟨(X : Int), 0, ⟨#[]⟩⟩) → w.grownBy w3 (some g) → In w3 g (some ⟨b, off, none⟩) c B (at_ + 1) bad' → ValR w g (some ⟨b, off, none⟩) c B at_ bad (.returned (.agg #[.int .i64 (X : Int), .int .i64 0, .string ⟨#[]⟩])) w3) := fun bad' w3 hb' hg' hi' =>
          valR_fin ⟨(X : Int), 0, ⟨#[]⟩⟩ HF.out InI.zero (Nat.zero_le _) (by omega) id (fun h => by rw [HL.out, HT.out]; rfl) (fun h0 h1 => by rw [h0] at h1; cases h1) hg' bad' hb' hi'
        clear hx1 hx3
        go_wp2
        go_quiet (fail)
        go_wp2
        go_region_held3 (fun w' => w'.cell? ⟨g, 0, none⟩ = some (.slice (some ⟨b, off, none⟩) B.length c) ∧ w'.cell? ⟨g, 1, none⟩ = some (.int .i64 (at_ : Int)) ∧ w'.cell? ⟨b, off + at_, none⟩ = some (.int .u8 (X : Int))) (first | go_keep) (first | fail)
        go_wp2_with fail
        refine (refValid_any ⟨(X : Int), 0, ⟨#[]⟩⟩ _ (by show 0 ≤ maxLen; exact Nat.zero_le _)).mono ?_
        rintro e w3 ⟨rfl, hb3⟩
        have hO2 := (HM.out _).2.2.1.later hb3
        have hO4 := (HM.out _).2.2.2.later hb3
        have hI3 := (HM.out _).1.later hb3
        have HI3 : Hid (In w3 g (some ⟨b, off, none⟩) c B (at_ + 1) bad) := hI3
        have HG3 : Hid (w.grownBy w3 (some g)) := grown_trans (HM.out _).2.1 (grown_below hb3)
        have z0 := hO2.cell 0 (by decide)
        have z1 := hO2.cell 1 (by decide)
        have z2 := hO2.cell 2 (by decide)
        have q0 := hO2.soft 0
        have q1 := hO2.soft 1
        have q2 := hO2.soft 2
        have t0 := hO4.cell 0 (by decide)
        have t1 := hO4.cell 1 (by decide)
        have t2 := hO4.cell 2 (by decide)
        have x2 : w3.cell? ⟨g, 2, none⟩ = some (.bool bad) := by rw [hI3.own.cell 2 (by decide)]; rfl
        have r2 := hI3.own.soft 2
        clear hb3 hI3 hO2 hO4 HM
        simp at z0 z1 z2 t0 t1 t2
        cases bad <;> cases hv : validV ⟨(X : Int), 0, ⟨#[]⟩⟩
        all_goals
          rw [hv] at HFI
          go_wp2
          refine bodyPost_ret (v := .agg #[.int .i64 (X : Int), .int .i64 0, .string ⟨#[]⟩]) (by simp [results, Tryd.results18, go_sem, z0, z1, z2]) rfl (HFI.out _ _ rfl ?_ ?_)
          · repeat (first | exact grown_trans HG3.out (HI3.out.mark _).2 | refine grown_new ?_ (grown_set _ _ _) (fun k hk => by cases hk; simp))
          · repeat (first | exact (HI3.out.mark _).1 | refine In.grown ?_ (grown_set _ _ _) (fun k hk => by cases hk; simp; omega))
end Go.Proofs.YtafighjlciglpaaDoor
